package plan_test

import (
	"testing"

	"jotter/api"
	"jotter/plan"
)

var g = api.Geometry{Blocks: 9, Pages: 4, Bytes: 32, Spares: 1, Trigger: 4}

func faults(n int) []api.Fault {
	fs := []api.Fault{}
	for i := range n {
		fs = append(fs, api.Fault{Block: i, After: i})
	}
	return fs
}

func TestP6_1May(t *testing.T) {
	for _, fs := range [][]api.Fault{
		nil, {}, {{Block: 0}}, {{Block: 8}}, {{Block: 3, Factory: true}}, {{Block: 3, After: 1 << 30}}, {{Block: 3, After: 5}, {Block: 2, Factory: true}, {Block: 0, After: 5}}, faults(8),
	} {
		if !plan.May(g, fs) {
			t.Errorf("P6.1: May(%v) is false", fs)
		}
		if plan.May(api.Geometry{}, fs) || plan.May(api.Geometry{Blocks: 9, Pages: 4, Bytes: 32, Spares: 1, Trigger: 1}, fs) {
			t.Errorf("P6.1: May(%v) over a geometry that may not be is true", fs)
		}
	}
	for _, fs := range [][]api.Fault{
		faults(9), {{Block: -1}}, {{Block: 9}}, {{Block: 1 << 40}}, {{Block: 3, After: -1}}, {{Block: 3, After: 1<<30 + 1}}, {{Block: 3, Factory: true, After: 1}},
		{{Block: 3}, {Block: 3}}, {{Block: 3}, {Block: 2}, {Block: 3, After: 7}}, {{Block: 3, Factory: true}, {Block: 3, After: 1}}, {{Block: 1}, {Block: 9}}, {{Block: 1}, {Block: 2, After: -5}},
	} {
		if plan.May(g, fs) {
			t.Errorf("P6.1: May(%v) is true", fs)
		}
	}
}

func TestP6_1Fails(t *testing.T) {
	fs := []api.Fault{{Block: 3, After: 2}, {Block: 5, Factory: true}, {Block: 0, After: 1 << 30}, {Block: 7}}
	for _, x := range []struct {
		block, done int
		want        bool
	}{{3, 0, false}, {3, 1, false}, {3, 2, true}, {3, 3, true}, {3, 1 << 40, true}, {5, 0, true}, {5, 9, true}, {7, 0, true}, {0, 1<<30 - 1, false}, {0, 1 << 30, true}, {1, 1 << 40, false}, {2, 0, false}, {-1, 5, false}, {99, 5, false}} {
		if got := plan.Fails(fs, x.block, x.done); got != x.want {
			t.Errorf("P6.1: Fails(%d, %d): %v", x.block, x.done, got)
		}
	}
	if plan.Fails(nil, 0, 5) {
		t.Error("P6.1: Fails of no faults")
	}
}

func TestP6_1BadMany(t *testing.T) {
	fs := []api.Fault{{Block: 3, After: 2}, {Block: 5, Factory: true}, {Block: 7}, {Block: 1, Factory: true}}
	for b := -1; b < 12; b++ {
		if plan.Bad(fs, b) != (b == 5 || b == 1) {
			t.Errorf("P6.1: Bad(%d)", b)
		}
	}
	if plan.Bad(nil, 0) || plan.Many(nil) != 0 || plan.Many(fs) != 4 || plan.Many(faults(8)) != 8 {
		t.Error("P6.1: Bad of none, or Many")
	}
}
