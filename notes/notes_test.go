package notes_test

import (
	"math/rand"
	"reflect"
	"testing"

	"jotter/api"
	"jotter/chip"
	"jotter/desk"
	"jotter/geom"
	"jotter/notes"
	"jotter/stroke"
)

var small = api.Geometry{Blocks: 8, Pages: 4, Bytes: 32, Spares: 0, Trigger: 3}

func geometries() []api.Geometry {
	return []api.Geometry{small, {Blocks: 20, Pages: 8, Bytes: 64, Spares: 2, Trigger: 2}, {Blocks: 12, Pages: 5, Bytes: 24, Spares: 1, Trigger: 20}}
}

func line(ps ...complex128) api.Sheet { return api.Sheet{{Pen: 1, Width: 2, Points: ps}} }

func same(a, b api.Reply) bool {
	return a.Code == b.Code && a.N == b.N && len(a.Items) == len(b.Items) && len(a.Names) == len(b.Names) &&
		(len(a.Items) == 0 || reflect.DeepEqual(a.Items, b.Items)) && (len(a.Names) == 0 || reflect.DeepEqual(a.Names, b.Names)) && stroke.Same(a.Sheet, b.Sheet)
}

func do(t *testing.T, n *notes.Notes, x api.Call, want api.Reply) {
	t.Helper()
	if got := n.Do(x); !same(got, want) {
		t.Errorf("P21.2: Do(%+v): %+v, not %+v", x, got, want)
	}
}

func code(e api.Errno) api.Reply { return api.Reply{Code: e} }

func open(t *testing.T, c *chip.Chip) *notes.Notes {
	t.Helper()
	n, e := notes.Open(c)
	if e != api.OK || n == nil {
		t.Fatalf("P21.1: Open: %d", e)
	}
	return n
}

// cut takes the power, and brings it back.
func cut(t *testing.T, c *chip.Chip) {
	t.Helper()
	c.Arm(api.Cut{Op: 1})
	c.Read(api.Place{})
	if c.On() || c.Boot() != api.OK {
		t.Fatal("no cut")
	}
}

func TestR3Nil(t *testing.T) {
	var n *notes.Notes
	for x := range 21 {
		do(t, n, api.Call{Do: x}, code(api.ErrNil))
	}
	if n.Desk() != nil || n.Chip() != nil || n.Degraded() {
		t.Error("R3: a nil one tells something")
	}
	n, e := notes.Open(nil)
	if n != nil || e != api.ErrNil {
		t.Errorf("R3: Open(nil): %d", e)
	}
}

func TestP21_1Open(t *testing.T) {
	c := chip.New(small)
	n := open(t, c)
	if n.Chip() != c || n.Degraded() || !desk.Same(n.Desk(), desk.New(small)) {
		t.Error("P21.1: Open of a new chip")
	}
	n.Desk().Do(api.Call{Do: api.CallBook, Name: "x"})
	if !desk.Same(n.Desk(), desk.New(small)) {
		t.Error("P21.1: Desk is no copy")
	}
	for op := 1; ; op++ {
		c.Arm(api.Cut{Op: op})
		m, e := notes.Open(c)
		if e == api.OK {
			break
		}
		if m != nil || e != api.ErrOff || c.On() {
			t.Fatalf("P21.1: Open cut at %d: %d", op, e)
		}
		if _, e := notes.Open(c); e != api.ErrOff {
			t.Fatalf("P21.1: Open without power: %d", e)
		}
		c.Boot()
	}
}

// TestExamples are the chapter's, and the first ones of the whole.
func TestExamples(t *testing.T) {
	c := chip.New(small)
	n := open(t, c)
	do(t, n, api.Call{Do: api.CallBook, Name: "a"}, api.Reply{N: 1})
	do(t, n, api.Call{Do: api.CallSync}, api.Reply{})
	do(t, n, api.Call{Do: api.CallBook, Name: "b"}, api.Reply{N: 2})
	cut(t, c)
	n = open(t, c)
	do(t, n, api.Call{Do: api.CallBooks}, api.Reply{Items: []api.Item{{ID: 1, Name: "a"}}})
	do(t, n, api.Call{Do: api.CallNote, A: 1, Name: "n"}, api.Reply{N: 1})
	do(t, n, api.Call{Do: api.CallAppend, A: 1, Sheet: line(1, 2i)}, api.Reply{N: 1})
	do(t, n, api.Call{Do: api.CallSync}, api.Reply{})
	cut(t, c)
	n = open(t, c)
	do(t, n, api.Call{Do: api.CallRead, A: 1}, api.Reply{Sheet: line(1, 2i)})
	do(t, n, api.Call{Do: api.CallDiscard, A: 1}, api.Reply{})
	do(t, n, api.Call{Do: api.CallSync}, api.Reply{})
	cut(t, c)
	n = open(t, c)
	do(t, n, api.Call{Do: api.CallRead, A: 1}, code(api.ErrNone))
	do(t, n, api.Call{Do: api.CallInfo, A: 1}, code(api.ErrNone))
}

func TestP21_2Off(t *testing.T) {
	c := chip.New(small)
	n := open(t, c)
	do(t, n, api.Call{Do: api.CallBook, Name: "a"}, api.Reply{N: 1})
	before := n.Desk()
	c.Arm(api.Cut{Op: 1})
	do(t, n, api.Call{Do: api.CallSync}, code(api.ErrOff))
	for x := -1; x < 22; x++ {
		do(t, n, api.Call{Do: x, A: 1, Name: "x"}, code(api.ErrOff))
	}
	if !desk.Same(n.Desk(), before) {
		t.Error("P21.2: a call without power changed the desk")
	}
}

// randomCall is a call that may or may not be OK.
func randomCall(r *rand.Rand) api.Call {
	s := api.Sheet{}
	for range r.Intn(4) {
		x := api.Stroke{Pen: r.Intn(8), Width: 1 + r.Intn(9)}
		for range 1 + r.Intn(10) {
			x.Points = append(x.Points, complex(float64(r.Intn(200)-100), float64(r.Intn(200))))
		}
		s = append(s, x)
	}
	names := []string{"a", "b", "c", "name", "a long name of them", "", "/"}
	return api.Call{Do: 1 + r.Intn(19), A: 1 + r.Intn(6), B: r.Intn(3), Name: names[r.Intn(len(names))], By: []complex128{1i, -1, 1, 2, 0.5}[r.Intn(5)], Sheet: s}
}

// counts is what is programmed and erased on a chip.
func counts(c *chip.Chip) []int {
	n := []int{}
	for b := range c.Geometry().Blocks {
		n = append(n, c.Used(b), c.Wear(b))
	}
	return n
}

// step does a call on both, and wants the same of them.
func step(t *testing.T, n *notes.Notes, d *desk.Desk, x api.Call) {
	t.Helper()
	before, first := counts(n.Chip()), n.Chip().Ops()
	do(t, n, x, d.Do(x))
	if x.Do != api.CallSync && !reflect.DeepEqual(counts(n.Chip()), before) {
		t.Errorf("P21.2: Do(%+v) programs or erases", x)
	}
	if ops := n.Chip().Ops() - first; ops > geom.Bound(n.Chip().Geometry()) {
		t.Errorf("T5: Do(%+v): %d operations", x, ops)
	}
}

func TestP21_2Model(t *testing.T) {
	for seed := range int64(30) {
		r := rand.New(rand.NewSource(seed))
		g := geometries()[r.Intn(3)]
		fs := []api.Fault{}
		for b := range g.Spares {
			fs = append(fs, api.Fault{Block: b + r.Intn(3)*4, After: r.Intn(40)})
		}
		c := chip.New(g, fs...)
		n, d := open(t, c), desk.New(g)
		synced := d.Copy()
		for range 150 {
			x := randomCall(r)
			step(t, n, d, x)
			if x.Do == api.CallSync {
				synced = d.Copy()
			}
			if r.Intn(20) == 0 {
				n = open(t, c)
				d = synced.Copy()
			}
			if !desk.Same(n.Desk(), d) {
				t.Fatalf("P21.1: another desk behind Do(%+v)", x)
			}
		}
	}
}

// TestP21_3EachOperation cuts a CallSync, and the Open behind it, at each operation.
func TestP21_3EachOperation(t *testing.T) {
	for seed := range int64(6) {
		for op, through := 1, false; !through; op++ {
			r := rand.New(rand.NewSource(seed))
			g := geometries()[seed%3]
			c := chip.New(g)
			n, d := open(t, c), desk.New(g)
			for range 60 {
				step(t, n, d, randomCall(r))
			}
			step(t, n, d, api.Call{Do: api.CallSync})
			old := d.Copy()
			for range 20 {
				x := randomCall(r)
				if x.Do != api.CallSync {
					step(t, n, d, x)
				}
			}
			x := api.Cut{Op: op, Bytes: r.Intn(2) * 1000, Fill: byte(r.Intn(256))}
			c.Arm(x)
			if got := n.Do(api.Call{Do: api.CallSync}); got.Code == api.OK {
				through = true
			} else if !same(got, code(api.ErrOff)) {
				t.Fatalf("P21.2: CallSync, cut: %+v", got)
			}
			if through {
				c.Arm(api.Cut{Op: 1})
				c.Read(api.Place{})
				old = d.Copy()
			}
			c.Boot()
			c.Arm(x)
			if m, e := notes.Open(c); e != api.OK {
				c.Boot()
			} else if got := m.Desk(); !desk.Same(got, old) && !desk.Same(got, d) {
				t.Fatalf("P21.3: cut at %d", op)
			}
			c.Arm(api.Cut{Op: 1 << 30})
			if got := open(t, c).Desk(); !desk.Same(got, old) && !desk.Same(got, d) {
				t.Fatalf("P21.3: cut at %d, and in the Open behind", op)
			}
		}
	}
}

// TestP21_2Degraded has one more fault than there are Spares.
func TestP21_2Degraded(t *testing.T) {
	for _, g := range geometries() {
		fs := []api.Fault{}
		for b := range g.Spares + 1 {
			fs = append(fs, api.Fault{Block: 2 * b, After: 4 + b})
		}
		c := chip.New(g, fs...)
		n, d := open(t, c), desk.New(g)
		step(t, n, d, api.Call{Do: api.CallBook, Name: "b"})
		step(t, n, d, api.Call{Do: api.CallNote, A: 1, Name: "n"})
		step(t, n, d, api.Call{Do: api.CallAppend, A: 1, Sheet: line(0)})
		old := d.Copy()
		e := api.OK
		for i := 0; e == api.OK && i < 1000; i++ {
			step(t, n, d, api.Call{Do: api.CallReplace, A: 1, Sheet: line(complex(float64(i), 0))})
			if e = n.Do(api.Call{Do: api.CallSync}).Code; e == api.OK {
				old = d.Copy()
			}
		}
		if e != api.ErrDegraded || !n.Degraded() {
			t.Fatalf("P21.2: with too many faults: %d", e)
		}
		for x := -1; x < 22; x++ {
			call := api.Call{Do: x, A: 1, Name: "new", Sheet: line(1), By: 1}
			want := d.Copy().Do(call)
			if x >= api.CallBook && x <= api.CallTurn || x == api.CallSync {
				want = code(api.ErrReadOnly)
			}
			do(t, n, call, want)
		}
		do(t, n, api.Call{Do: api.CallDrop, A: 99}, code(api.ErrReadOnly))
		do(t, n, api.Call{Do: api.CallRead, A: 1}, d.Do(api.Call{Do: api.CallRead, A: 1}))
		if !desk.Same(n.Desk(), d) {
			t.Error("P21.2: degraded, the desk is another one")
		}
		cut(t, c)
		m := open(t, c)
		if got := m.Desk(); !desk.Same(got, old) && !desk.Same(got, d) {
			t.Error("P21.3: degraded, behind a cut")
		}
	}
}

// TestUnchanged renames a book beside many sheets: they are not written again.
func TestUnchanged(t *testing.T) {
	c := chip.New(api.Geometry{Blocks: 20, Pages: 8, Bytes: 64, Trigger: 5})
	n := open(t, c)
	do(t, n, api.Call{Do: api.CallBook, Name: "b"}, api.Reply{N: 1})
	ps := []complex128{0, 1, 2, 3, 4, 5, 6, 7, 8, 9}
	s := api.Sheet{{Width: 1, Points: ps}, {Width: 2, Points: ps}, {Width: 3, Points: ps}, {Width: 4, Points: ps}, {Width: 5, Points: ps}}
	for i := range 12 {
		do(t, n, api.Call{Do: api.CallNote, A: 1, Name: string(rune('a' + i))}, api.Reply{N: i + 1})
		do(t, n, api.Call{Do: api.CallAppend, A: i + 1, Sheet: s}, api.Reply{N: 1})
	}
	programs := func() int {
		before := sum(counts(c))
		do(t, n, api.Call{Do: api.CallSync}, api.Reply{})
		return sum(counts(c)) - before
	}
	if all := programs(); all < 48 {
		t.Errorf("P21.2: a CallSync of 48 pages of sheets programs %d", all)
	}
	do(t, n, api.Call{Do: api.CallRename, A: 1, Name: "c"}, api.Reply{})
	do(t, n, api.Call{Do: api.CallTurn, A: 3, By: 1i}, api.Reply{})
	if few := programs(); few > 24 {
		t.Errorf("P21.2: a CallSync with all sheets but one unchanged programs %d pages", few)
	}
}

func sum(list []int) int {
	n := 0
	for _, x := range list {
		n += x
	}
	return n
}

// TestFull fills a chip to its last page, syncs, and changes it for long.
func TestFull(t *testing.T) {
	for _, g := range geometries() {
		c := chip.New(g)
		n, d := open(t, c), desk.New(g)
		step(t, n, d, api.Call{Do: api.CallBook, Name: "b"})
		for i := range 12 {
			step(t, n, d, api.Call{Do: api.CallNote, A: 1, Name: string(rune('a' + i))})
		}
		r := rand.New(rand.NewSource(5))
		for i := range 250 {
			x := randomCall(r)
			x.Do, x.A = api.CallAppend, 1+i%12
			if i > 100 {
				x.Do = api.CallReplace
			}
			step(t, n, d, x)
			if i%5 == 0 {
				step(t, n, d, api.Call{Do: api.CallSync})
				if !desk.Same(open(t, c).Desk(), d) {
					t.Fatalf("P21.1: of %v: full, behind %d calls", g, i)
				}
				n = open(t, c)
			}
		}
		if d.Need() < geom.Logical(g)-3 {
			t.Errorf("of %v only %d pages are full", g, d.Need())
		}
	}
}
