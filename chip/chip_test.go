package chip_test

import (
	"bytes"
	"testing"

	"jotter/api"
	"jotter/chip"
)

var g = api.Geometry{Blocks: 8, Pages: 4, Bytes: 24, Spares: 0, Trigger: 5}

const raw = 40

func at(block, page int) api.Place { return api.Place{Block: block, Page: page} }

func fill(x byte) []byte { return bytes.Repeat([]byte{x}, raw) }

// counting is fresh bytes that differ from one another.
func counting(first byte) []byte {
	b := make([]byte, raw)
	for i := range b {
		b[i] = first + byte(i)
	}
	return b
}

func want(t *testing.T, what string, got api.Errno, want api.Errno) {
	t.Helper()
	if got != want {
		t.Errorf("%s: %d, not %d", what, got, want)
	}
}

func wantPage(t *testing.T, what string, c *chip.Chip, p api.Place, b []byte) {
	t.Helper()
	got, e := c.Read(p)
	if e != api.OK || !bytes.Equal(got, b) {
		t.Errorf("%s: page %v is %v, %d, not %v", what, p, got, e, b)
	}
}

// wantBlock looks at what is counted of a block.
func wantBlock(t *testing.T, what string, c *chip.Chip, block, used, wear int, failed bool) {
	t.Helper()
	if c.Used(block) != used || c.Wear(block) != wear || c.Failed(block) != failed {
		t.Errorf("%s: block %d: used %d, wear %d, failed %v, not %d, %d, %v", what, block, c.Used(block), c.Wear(block), c.Failed(block), used, wear, failed)
	}
}

func program(t *testing.T, c *chip.Chip, block int, from int, to int) {
	t.Helper()
	for i := from; i < to; i++ {
		want(t, "Program", c.Program(at(block, i), fill(byte(10*block+i))), api.OK)
	}
}

func TestP7_1New(t *testing.T) {
	c := chip.New(g)
	if c == nil || !c.On() || c.Ops() != 0 || c.Cuts() != 0 || c.Geometry() != g {
		t.Fatal("P7.1: New")
	}
	for b := range g.Blocks {
		wantBlock(t, "P7.1: a new one", c, b, 0, 0, false)
		for i := range g.Pages {
			wantPage(t, "P7.1: a new one", c, at(b, i), fill(255))
		}
	}
	if c.Ops() != 32 {
		t.Errorf("P7.1: behind 32 Reads Ops is %d", c.Ops())
	}
	wrong := g
	wrong.Trigger = 1
	if chip.New(wrong) != nil || chip.New(api.Geometry{}) != nil || chip.New(g, api.Fault{Block: 8}) != nil || chip.New(g, api.Fault{Block: 1}, api.Fault{Block: 1}) != nil || chip.New(g, api.Fault{Block: 1, Factory: true, After: 1}) != nil {
		t.Error("P7.1: New of what may not be is not nil")
	}
	fs := []api.Fault{{Block: 2, After: 1}}
	c = chip.New(g, fs...)
	fs[0].Block = 3
	program(t, c, 2, 0, 1)
	program(t, c, 3, 0, 1)
	if !c.Failed(2) || c.Failed(3) {
		t.Error("R4: New keeps the faults that were handed in")
	}
}

func TestR3Nil(t *testing.T) {
	var c *chip.Chip
	_, e := c.Read(at(0, 0))
	want(t, "R3: Read", e, api.ErrNil)
	want(t, "R3: Program", c.Program(at(0, 0), nil), api.ErrNil)
	want(t, "R3: Erase", c.Erase(0), api.ErrNil)
	want(t, "R3: Arm", c.Arm(api.Cut{Op: 1}), api.ErrNil)
	want(t, "R3: Boot", c.Boot(), api.ErrNil)
	if c.On() || c.Ops() != 0 || c.Wear(0) != 0 || c.Used(0) != 0 || c.Failed(0) || c.Bad(0) || c.Cuts() != 0 || c.Geometry() != (api.Geometry{}) {
		t.Error("R3: a nil chip tells something")
	}
}

func TestP7_1Places(t *testing.T) {
	c := chip.New(g)
	for _, p := range []api.Place{at(-1, 0), at(8, 0), at(0, -1), at(0, 4), at(1<<62, 0), at(0, 1<<62), at(-1<<63, 0)} {
		b, e := c.Read(p)
		want(t, "P7.1: Read of no place", e, api.ErrArg)
		if len(b) != 0 {
			t.Errorf("R2: Read of no place tells %v", b)
		}
		want(t, "P7.1: Program of no place", c.Program(p, fill(1)), api.ErrArg)
	}
	for _, b := range []int{-1, 8, 1 << 62, -1 << 63} {
		want(t, "P7.1: Erase of no block", c.Erase(b), api.ErrArg)
		if c.Wear(b) != 0 || c.Used(b) != 0 || c.Failed(b) || c.Bad(b) {
			t.Errorf("P7.3: block %d tells something", b)
		}
	}
	for _, n := range []int{0, 24, 39, 41, 80} {
		want(t, "P7.1: Program of so many bytes", c.Program(at(0, 0), make([]byte, n)), api.ErrArg)
	}
	if c.Ops() != 0 {
		t.Errorf("P7.1: ErrArg was an operation: %d", c.Ops())
	}
}

func TestP7_2ProgramReadErase(t *testing.T) {
	c := chip.New(g)
	b := counting(3)
	want(t, "P7.2: Program", c.Program(at(1, 0), b), api.OK)
	b[0] = 99
	wantPage(t, "P7.2: Program", c, at(1, 0), counting(3))
	got, _ := c.Read(at(1, 0))
	got[0] = 99
	wantPage(t, "R4: Read", c, at(1, 0), counting(3))
	wantBlock(t, "P7.2: Program", c, 1, 1, 0, false)
	want(t, "P7.2: Program of the same one", c.Program(at(1, 0), fill(1)), api.ErrOrder)
	want(t, "P7.2: Program of one too far", c.Program(at(1, 2), fill(1)), api.ErrOrder)
	wantPage(t, "P7.2: ErrOrder", c, at(1, 2), fill(255))
	wantBlock(t, "P7.2: ErrOrder", c, 1, 1, 0, false)
	program(t, c, 1, 1, 4)
	for i := range 4 {
		want(t, "P7.2: Program of a full one", c.Program(at(1, i), fill(1)), api.ErrOrder)
	}
	program(t, c, 0, 0, 2)
	want(t, "P7.2: Erase", c.Erase(1), api.OK)
	for i := range 4 {
		wantPage(t, "P7.2: Erase", c, at(1, i), fill(255))
	}
	wantBlock(t, "P7.2: Erase", c, 1, 0, 1, false)
	wantPage(t, "P7.2: Erase of another one", c, at(0, 1), fill(1))
	wantBlock(t, "P7.2: Erase of another one", c, 0, 2, 0, false)
	want(t, "P7.2: Erase", c.Erase(7), api.OK)
	want(t, "P7.2: Erase", c.Erase(7), api.OK)
	wantBlock(t, "P7.2: Erase of an erased one", c, 7, 0, 2, false)
}

func TestP7_1Operations(t *testing.T) {
	c := chip.New(g, api.Fault{Block: 5})
	ops := func(n int, e api.Errno, wanted api.Errno) {
		t.Helper()
		want(t, "P7.1: an operation", e, wanted)
		if c.Ops() != n {
			t.Errorf("P7.1: Ops is %d, not %d", c.Ops(), n)
		}
	}
	ops(1, c.Program(at(0, 0), fill(1)), api.OK)
	ops(2, c.Program(at(0, 0), fill(1)), api.ErrOrder)
	ops(3, c.Program(at(5, 0), fill(1)), api.ErrFail)
	ops(4, c.Erase(5), api.ErrFail)
	ops(5, c.Erase(0), api.OK)
	_, e := c.Read(at(5, 0))
	ops(6, e, api.OK)
	ops(6, c.Erase(-1), api.ErrArg)
	ops(6, c.Arm(api.Cut{Op: 1}), api.OK)
	_, e = c.Read(at(0, 0))
	ops(7, e, api.ErrOff)
	_, e = c.Read(at(0, 0))
	ops(7, e, api.ErrOff)
	ops(7, c.Erase(0), api.ErrOff)
	ops(7, c.Erase(99), api.ErrOff)
	ops(7, c.Program(at(0, 0), nil), api.ErrOff)
	_, e = c.Read(at(0, 99))
	ops(7, e, api.ErrOff)
	ops(7, c.Boot(), api.OK)
}

func TestP7_2Faults(t *testing.T) {
	c := chip.New(g, api.Fault{Block: 2, After: 3}, api.Fault{Block: 3, Factory: true}, api.Fault{Block: 4})
	if !c.Failed(3) || !c.Failed(4) || c.Failed(2) || !c.Bad(3) || c.Bad(4) || c.Bad(2) || c.Bad(0) || c.Bad(99) {
		t.Error("P7.3: Failed, Bad")
	}
	for _, b := range []int{3, 4} {
		want(t, "P7.2: Program of a failed one", c.Program(at(b, 0), fill(1)), api.ErrFail)
		want(t, "P7.2: Program of a failed one, out of order", c.Program(at(b, 2), fill(1)), api.ErrFail)
		want(t, "P7.2: Erase of a failed one", c.Erase(b), api.ErrFail)
		wantPage(t, "P7.2: a failed one", c, at(b, 0), fill(255))
		wantBlock(t, "P7.2: a failed one", c, b, 0, 0, true)
	}
	program(t, c, 2, 0, 1)
	want(t, "P7.2: ErrOrder is not done", c.Program(at(2, 0), fill(1)), api.ErrOrder)
	want(t, "P7.2: Erase", c.Erase(2), api.OK)
	wantBlock(t, "P7.2: two are done", c, 2, 0, 1, false)
	want(t, "P7.2: Program", c.Program(at(2, 0), fill(8)), api.OK)
	wantBlock(t, "P7.2: three are done", c, 2, 1, 1, true)
	want(t, "P7.2: Program of a failed one", c.Program(at(2, 1), fill(9)), api.ErrFail)
	want(t, "P7.2: Erase of a failed one", c.Erase(2), api.ErrFail)
	wantPage(t, "P7.2: what failed", c, at(2, 0), fill(8))
	wantPage(t, "P7.2: what failed", c, at(2, 1), fill(255))
	wantBlock(t, "P7.2: what failed", c, 2, 1, 1, true)
}

func TestP7_1CutOfProgram(t *testing.T) {
	for _, n := range []int{0, 1, 3, 24, 39, 40, 41, 1 << 30} {
		c := chip.New(g, api.Fault{Block: 0, After: 2})
		program(t, c, 0, 0, 1)
		want(t, "P7.3: Arm", c.Arm(api.Cut{Op: 1, Bytes: n, Fill: 7}), api.OK)
		want(t, "P7.1: a cut Program", c.Program(at(0, 1), counting(100)), api.ErrOff)
		if c.On() || c.Cuts() != 1 {
			t.Error("P7.1: there is power behind a cut")
		}
		want(t, "P7.1: without power", c.Program(at(0, 2), fill(1)), api.ErrOff)
		want(t, "P7.3: Boot", c.Boot(), api.OK)
		page := fill(255)
		copy(page, counting(100)[:min(n, raw)])
		wantPage(t, "P7.1: a cut Program", c, at(0, 1), page)
		wantPage(t, "P7.1: a cut Program", c, at(0, 0), fill(0))
		wantPage(t, "P7.1: a cut Program", c, at(0, 2), fill(255))
		wantBlock(t, "P7.1: a cut Program is not done, but next is one more", c, 0, 2, 0, false)
		want(t, "P7.1: the next one", c.Program(at(0, 2), fill(6)), api.OK)
		wantBlock(t, "P7.1: the next one is done", c, 0, 3, 0, true)
	}
}

func TestP7_1CutOfErase(t *testing.T) {
	for _, x := range []byte{0, 7, 254, 255} {
		c := chip.New(g, api.Fault{Block: 1, After: 4})
		program(t, c, 1, 0, 2)
		want(t, "P7.3: Arm", c.Arm(api.Cut{Op: 1, Bytes: 5, Fill: x}), api.OK)
		want(t, "P7.1: a cut Erase", c.Erase(1), api.ErrOff)
		want(t, "P7.1: without power", c.Erase(1), api.ErrOff)
		want(t, "P7.3: Boot", c.Boot(), api.OK)
		for i := range 4 {
			wantPage(t, "P7.1: a cut Erase", c, at(1, i), fill(x))
		}
		wantPage(t, "P7.1: another block", c, at(0, 3), fill(255))
		wantPage(t, "P7.1: another block", c, at(2, 0), fill(255))
		used := 4
		if x == 255 {
			used = 0
		}
		wantBlock(t, "P7.1: a cut Erase", c, 1, used, 1, false)
		if x != 255 {
			want(t, "P7.1: such a block is full", c.Program(at(1, 0), fill(1)), api.ErrOrder)
		}
		want(t, "P7.1: the next Erase", c.Erase(1), api.OK)
		wantBlock(t, "P7.1: four are done", c, 1, 0, 2, true)
	}
}

func TestP7_1CutOfWhatWouldFail(t *testing.T) {
	for i := range 4 {
		c := chip.New(g, api.Fault{Block: 2})
		program(t, c, 1, 0, 1)
		want(t, "P7.3: Arm", c.Arm(api.Cut{Op: 1, Bytes: 9, Fill: 7}), api.OK)
		var e api.Errno
		switch i {
		case 0:
			e = c.Program(at(2, 0), fill(1))
		case 1:
			e = c.Program(at(1, 3), fill(1))
		case 2:
			e = c.Erase(2)
		case 3:
			var b []byte
			b, e = c.Read(at(1, 0))
			if len(b) != 0 {
				t.Errorf("P7.1: a cut Read tells %v", b)
			}
		}
		want(t, "P7.1: a cut", e, api.ErrOff)
		if c.On() || c.Cuts() != 1 || c.Ops() != 2 {
			t.Error("P7.1: a cut of what would fail")
		}
		want(t, "P7.3: Boot", c.Boot(), api.OK)
		for p := range 4 {
			wantPage(t, "P7.1: what would fail", c, at(2, p), fill(255))
		}
		wantPage(t, "P7.1: what would fail", c, at(1, 0), fill(10))
		wantPage(t, "P7.1: what would fail", c, at(1, 3), fill(255))
		wantBlock(t, "P7.1: what would fail", c, 2, 0, 0, true)
		wantBlock(t, "P7.1: what would fail", c, 1, 1, 0, false)
	}
}

func TestP7_3Arm(t *testing.T) {
	c := chip.New(g)
	for _, x := range []api.Cut{{Op: 0}, {Op: -1}, {Op: 1<<30 + 1}, {Op: 1, Bytes: -1}, {Op: 1, Bytes: 1<<30 + 1}, {}} {
		want(t, "P7.3: Arm of what may not be", c.Arm(x), api.ErrArg)
	}
	program(t, c, 0, 0, 4)
	want(t, "P7.3: Arm", c.Arm(api.Cut{Op: 2}), api.OK)
	want(t, "P7.3: Arm of what may not be", c.Arm(api.Cut{Op: 0}), api.ErrArg)
	want(t, "P7.3: one ahead of the turn", c.Erase(0), api.OK)
	want(t, "P7.3: Arm in the place of another one", c.Arm(api.Cut{Op: 3, Bytes: 2}), api.OK)
	want(t, "P7.3: one ahead of the turn", c.Erase(0), api.OK)
	want(t, "P7.3: an operation that fails counts", c.Program(at(0, 3), fill(1)), api.ErrOrder)
	want(t, "P7.3: one that is none does not", c.Program(at(9, 3), fill(1)), api.ErrArg)
	want(t, "P7.3: its turn", c.Program(at(0, 0), fill(1)), api.ErrOff)
	want(t, "P7.3: Arm without power", c.Arm(api.Cut{Op: 1}), api.ErrOff)
	want(t, "P7.3: Arm of what may not be, without power", c.Arm(api.Cut{}), api.ErrOff)
	want(t, "P7.3: Boot", c.Boot(), api.OK)
	want(t, "P7.3: Boot with power", c.Boot(), api.ErrTwice)
	wantPage(t, "P7.3: the cut that took the other one's place", c, at(0, 0), append([]byte{1, 1}, fill(255)[2:]...))
	for range 9 {
		want(t, "P7.3: no cut waits any more", c.Erase(0), api.OK)
	}
	if c.Cuts() != 1 {
		t.Errorf("P7.3: Cuts is %d", c.Cuts())
	}
	want(t, "P7.3: Arm of the greatest", c.Arm(api.Cut{Op: 1 << 30, Bytes: 1 << 30, Fill: 255}), api.OK)
	want(t, "P7.3: it is far away", c.Erase(0), api.OK)
	want(t, "P7.3: Boot with power", c.Boot(), api.ErrTwice)
	want(t, "P7.3: Arm", c.Arm(api.Cut{Op: 1}), api.OK)
	want(t, "P7.3: Boot with power", c.Boot(), api.ErrTwice)
	want(t, "P7.3: the cut waits still", c.Erase(0), api.ErrOff)
	want(t, "P7.3: Boot", c.Boot(), api.OK)
	if c.Cuts() != 2 {
		t.Errorf("P7.3: Cuts is %d", c.Cuts())
	}
}

// TestExample is the chapter's.
func TestExample(t *testing.T) {
	c := chip.New(g)
	want(t, "Arm", c.Arm(api.Cut{Op: 1, Bytes: 3}), api.OK)
	want(t, "Program", c.Program(at(0, 0), fill(7)), api.ErrOff)
	want(t, "Boot", c.Boot(), api.OK)
	wantPage(t, "the page", c, at(0, 0), append([]byte{7, 7, 7}, fill(255)[3:]...))
}
