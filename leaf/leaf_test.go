package leaf_test

import (
	"bytes"
	"slices"
	"testing"

	"jotter/api"
	"jotter/chip"
	"jotter/leaf"
	"jotter/tag"
)

var g = api.Geometry{Blocks: 8, Pages: 4, Bytes: 24, Spares: 0, Trigger: 5}

func at(block, page int) api.Place { return api.Place{Block: block, Page: page} }

func data(x int) []byte { return bytes.Repeat([]byte{byte(x)}, 24) }

// put lays a valid page of number n on the next page of the block.
func put(t *testing.T, c *chip.Chip, block int, n int) api.Found {
	t.Helper()
	f := api.Found{At: at(block, c.Used(block)), Tag: api.Tag{Kind: api.KindData, Page: n, Seq: 100 + n, Epoch: 7}}
	raw, _ := tag.Lay(data(n), f.Tag)
	if e := c.Program(f.At, raw); e != api.OK {
		t.Fatalf("Program: %d", e)
	}
	return f
}

func tear(t *testing.T, c *chip.Chip, block int) {
	t.Helper()
	c.Arm(api.Cut{Op: 1, Bytes: 30})
	raw, _ := tag.Lay(data(1), api.Tag{Kind: api.KindData})
	if e := c.Program(at(block, c.Used(block)), raw); e != api.ErrOff {
		t.Fatalf("Program: %d", e)
	}
	c.Boot()
}

func wantOps(t *testing.T, what string, c *chip.Chip, n int, do func()) {
	t.Helper()
	first := c.Ops()
	do()
	if got := c.Ops() - first; got != n {
		t.Errorf("%s: %d operations, not %d", what, got, n)
	}
}

func TestP9_1StateLoad(t *testing.T) {
	c := chip.New(g, api.Fault{Block: 5, After: 1})
	f := put(t, c, 2, 3)
	put(t, c, 5, 4)
	tear(t, c, 2)
	for _, x := range []struct {
		p     api.Place
		state int
	}{{f.At, api.Valid}, {at(2, 1), api.Torn}, {at(2, 2), api.Erased}, {at(0, 0), api.Erased}, {at(5, 0), api.Valid}} {
		wantOps(t, "P9.1: State", c, 1, func() {
			if state, e := leaf.State(c, x.p); state != x.state || e != api.OK {
				t.Errorf("P9.1: State(%v): %d, %d", x.p, state, e)
			}
		})
		wantOps(t, "P9.1: Load", c, 1, func() {
			if b, y, e := leaf.Load(c, x.p); x.state != api.Valid && (len(b) != 0 || y != (api.Tag{}) || e != api.ErrForm) {
				t.Errorf("P9.1: Load(%v): %v, %v, %d", x.p, b, y, e)
			}
		})
	}
	if b, x, e := leaf.Load(c, f.At); e != api.OK || x != f.Tag || !bytes.Equal(b, data(3)) {
		t.Errorf("P9.1: Load: %v, %v, %d", b, x, e)
	}
}

func wantErrors(t *testing.T, c *chip.Chip, p api.Place, want api.Errno) {
	t.Helper()
	if s, e := leaf.State(c, p); s != 0 || e != want {
		t.Errorf("P9.1: State(%v): %d, %d", p, s, e)
	}
	if b, x, e := leaf.Load(c, p); len(b) != 0 || x != (api.Tag{}) || e != want {
		t.Errorf("P9.1: Load(%v): %v, %v, %d", p, b, x, e)
	}
}

func TestP9_1Errors(t *testing.T) {
	c := chip.New(g)
	put(t, c, 0, 1)
	for _, p := range []api.Place{at(-1, 0), at(8, 0), at(0, 4), at(0, -1)} {
		wantErrors(t, c, p, api.ErrArg)
	}
	c.Arm(api.Cut{Op: 1})
	wantErrors(t, c, at(0, 0), api.ErrOff)
	if c.On() {
		t.Error("P9.1: State is no Read")
	}
	if fs, e := leaf.Scan(c); len(fs) != 0 || e != api.ErrOff {
		t.Errorf("P9.1: Scan without power: %v, %d", fs, e)
	}
	if a, b, d, e := leaf.Count(c); a != 0 || b != 0 || d != 0 || e != api.ErrOff {
		t.Errorf("P9.1: Count without power: %d, %d, %d, %d", a, b, d, e)
	}
	wantErrors(t, nil, at(0, 0), api.ErrNil)
	if fs, e := leaf.Scan(nil); len(fs) != 0 || e != api.ErrNil {
		t.Errorf("R3: Scan(nil): %v, %d", fs, e)
	}
	if a, b, d, e := leaf.Count(nil); a != 0 || b != 0 || d != 0 || e != api.ErrNil {
		t.Errorf("R3: Count(nil): %d, %d, %d, %d", a, b, d, e)
	}
}

func TestP9_1ScanCount(t *testing.T) {
	c := chip.New(g, api.Fault{Block: 1, Factory: true}, api.Fault{Block: 6, After: 2})
	wantOps(t, "P9.1: Scan of a new chip", c, 28, func() {
		if fs, e := leaf.Scan(c); len(fs) != 0 || e != api.OK {
			t.Errorf("P9.1: Scan of a new chip: %v, %d", fs, e)
		}
	})
	put(t, c, 7, 9)
	want := []api.Found{put(t, c, 0, 5), put(t, c, 3, 2), put(t, c, 3, 2)}
	tear(t, c, 3)
	want = append(want, put(t, c, 3, 1), put(t, c, 6, 3), put(t, c, 6, 8), api.Found{At: at(7, 0), Tag: api.Tag{Kind: api.KindData, Page: 9, Seq: 109, Epoch: 7}})
	tear(t, c, 4)
	wantOps(t, "P9.1: Scan", c, 28, func() {
		if fs, e := leaf.Scan(c); !slices.Equal(fs, want) || e != api.OK {
			t.Errorf("P9.1: Scan: %v, %d", fs, e)
		}
	})
	wantOps(t, "P9.1: Count", c, 28, func() {
		if a, b, d, e := leaf.Count(c); a != 19 || b != 7 || d != 2 || e != api.OK {
			t.Errorf("P9.1: Count: %d, %d, %d, %d", a, b, d, e)
		}
	})
}

// TestP9_1Cut cuts Scan and Count at each of their operations.
func TestP9_1Cut(t *testing.T) {
	c := chip.New(g, api.Fault{Block: 0, Factory: true}, api.Fault{Block: 7, Factory: true})
	put(t, c, 1, 5)
	for op := 1; op <= 24; op++ {
		c.Arm(api.Cut{Op: op})
		wantOps(t, "P9.1: a cut Scan", c, op, func() {
			if fs, e := leaf.Scan(c); len(fs) != 0 || e != api.ErrOff {
				t.Errorf("P9.1: Scan cut at %d: %v, %d", op, fs, e)
			}
		})
		c.Boot()
		c.Arm(api.Cut{Op: op})
		wantOps(t, "P9.1: a cut Count", c, op, func() {
			if a, b, d, e := leaf.Count(c); a != 0 || b != 0 || d != 0 || e != api.ErrOff {
				t.Errorf("P9.1: Count cut at %d: %d, %d, %d, %d", op, a, b, d, e)
			}
		})
		c.Boot()
	}
	c.Arm(api.Cut{Op: 25})
	if fs, e := leaf.Scan(c); len(fs) != 1 || e != api.OK {
		t.Errorf("P9.1: Scan with a cut behind it: %v, %d", fs, e)
	}
}

func TestP9_1AllBad(t *testing.T) {
	fs := []api.Fault{}
	for b := range 8 {
		fs = append(fs, api.Fault{Block: b, Factory: true})
	}
	c := chip.New(g, fs...)
	wantOps(t, "P9.1: all blocks are bad", c, 0, func() {
		if found, e := leaf.Scan(c); len(found) != 0 || e != api.OK {
			t.Errorf("P9.1: all blocks are bad: Scan: %v, %d", found, e)
		}
		if a, b, d, e := leaf.Count(c); a != 0 || b != 0 || d != 0 || e != api.OK {
			t.Errorf("P9.1: all blocks are bad: Count: %d, %d, %d, %d", a, b, d, e)
		}
	})
}
