package audit_test

import (
	"slices"
	"testing"

	"jotter/api"
	"jotter/audit"
	"jotter/chip"
	"jotter/tag"
)

var g = api.Geometry{Blocks: 8, Pages: 4, Bytes: 24, Spares: 1, Trigger: 3}

func newChip(t *testing.T, fs ...api.Fault) *chip.Chip {
	t.Helper()
	c := chip.New(g, fs...)
	if c == nil {
		t.Fatal("no chip")
	}
	return c
}

func erase(t *testing.T, c *chip.Chip, block int, n int) {
	t.Helper()
	for range n {
		if e := c.Erase(block); e != api.OK {
			t.Fatalf("Erase(%d): %d", block, e)
		}
	}
}

func put(t *testing.T, c *chip.Chip, block int, x api.Tag) {
	t.Helper()
	raw, _ := tag.Lay(make([]byte, 24), x)
	if e := c.Program(api.Place{Block: block, Page: c.Used(block)}, raw); e != api.OK {
		t.Fatalf("Program: %d", e)
	}
}

func why(t *testing.T, what string, c *chip.Chip, want string) {
	t.Helper()
	if got := audit.Why(c); got != want {
		t.Errorf("P23.1: %s: Why is %q, not %q", what, got, want)
	}
}

func TestP23_1Wears(t *testing.T) {
	c := newChip(t, api.Fault{Block: 2, Factory: true}, api.Fault{Block: 4, After: 9})
	erase(t, c, 0, 3)
	erase(t, c, 4, 8)
	erase(t, c, 7, 5)
	ws, good := audit.Wears(c)
	if !slices.Equal(ws, []int{3, 0, 0, 0, 8, 0, 0, 5}) || !slices.Equal(good, []bool{true, true, false, true, true, true, true, true}) || audit.Spread(c) != 8 {
		t.Errorf("P23.1: Wears: %v, %v; Spread %d", ws, good, audit.Spread(c))
	}
	erase(t, c, 4, 1)
	ws, good = audit.Wears(c)
	if !slices.Equal(ws, []int{3, 0, 0, 0, 9, 0, 0, 5}) || good[4] || audit.Spread(c) != 5 {
		t.Errorf("P23.1: Wears: %v, %v; Spread %d", ws, good, audit.Spread(c))
	}
	if audit.Limit(c) != 19 {
		t.Errorf("P23.1: Limit: %d", audit.Limit(c))
	}
	for range 2 {
		c.Arm(api.Cut{Op: 1})
		c.Read(api.Place{})
		c.Boot()
	}
	if audit.Limit(c) != 21 {
		t.Errorf("P23.1: Limit behind two cuts: %d", audit.Limit(c))
	}
}

func TestP23_1Why(t *testing.T) {
	why(t, "nil", nil, "off")
	c := newChip(t)
	why(t, "a new one", c, "")
	put(t, c, 0, api.Tag{Kind: api.KindData, Seq: 5})
	put(t, c, 0, api.Tag{Kind: api.KindData, Seq: 6})
	put(t, c, 3, api.Tag{Kind: api.KindCommit, Seq: 7})
	why(t, "three numbers", c, "")
	erase(t, c, 5, 19)
	why(t, "at the limit", c, "")
	erase(t, c, 5, 1)
	why(t, "above the limit", c, "wear")
	put(t, c, 7, api.Tag{Kind: api.KindTrim, Seq: 6, Epoch: 9})
	why(t, "a number twice ahead of wear", c, "twice")
	c.Arm(api.Cut{Op: 1})
	c.Read(api.Place{})
	why(t, "no power", c, "off")
	c.Boot()
	why(t, "power again", c, "twice")
	erase(t, c, 7, 1)
	why(t, "a cut more is a limit more", c, "")
	erase(t, c, 5, 1)
	why(t, "above that", c, "wear")
}

// TestP23_1Faults has blocks that fail: their wear is none of the good ones', and with more than Spares wear is not looked at.
func TestP23_1Faults(t *testing.T) {
	c := newChip(t, api.Fault{Block: 1, After: 40}, api.Fault{Block: 2, After: 1})
	erase(t, c, 5, 20)
	why(t, "no block is failed", c, "wear")
	erase(t, c, 2, 1)
	why(t, "as many failed as Spares", c, "wear")
	erase(t, c, 1, 40)
	why(t, "more failed than Spares", c, "")
	c = newChip(t, api.Fault{Block: 1, Factory: true}, api.Fault{Block: 2, Factory: true})
	erase(t, c, 5, 20)
	why(t, "more bad ones than Spares", c, "")
	put(t, c, 3, api.Tag{Kind: api.KindData, Seq: 6})
	put(t, c, 3, api.Tag{Kind: api.KindData, Seq: 6})
	why(t, "a number twice, with faults", c, "twice")
	c = newChip(t, api.Fault{Block: 5, After: 20})
	erase(t, c, 5, 20)
	why(t, "the worn one is failed", c, "")
}

func TestR3Nil(t *testing.T) {
	ws, good := audit.Wears(nil)
	if len(ws) != 0 || len(good) != 0 || audit.Spread(nil) != 0 || audit.Limit(nil) != 0 {
		t.Error("R3: of a nil chip something is told")
	}
}
