package desk_test

import (
	"reflect"
	"strings"
	"testing"

	"jotter/api"
	"jotter/coding"
	"jotter/desk"
	"jotter/extent"
	"jotter/geom"
	"jotter/shelf"
	"jotter/stroke"
)

var (
	// wide has 66 logical pages of 64 bytes, small 8 of 24.
	wide  = api.Geometry{Blocks: 20, Pages: 8, Bytes: 64, Spares: 0, Trigger: 5}
	small = api.Geometry{Blocks: 8, Pages: 4, Bytes: 24, Spares: 0, Trigger: 5}
)

func line(ps ...complex128) api.Sheet { return api.Sheet{{Pen: 1, Width: 2, Points: ps}} }

// long is a sheet of so many strokes of ten points each.
func long(n int) api.Sheet {
	s := api.Sheet{}
	for i := range n {
		s = append(s, api.Stroke{Pen: i, Width: 1, Points: []complex128{0, 1, 2, 3, 4, 5, 6, 7, 8, complex(0, float64(i))}})
	}
	return s
}

// same holds two replies against each other; a list that is nil is an empty one.
func same(a, b api.Reply) bool {
	return a.Code == b.Code && a.N == b.N && len(a.Items) == len(b.Items) && len(a.Names) == len(b.Names) &&
		(len(a.Items) == 0 || reflect.DeepEqual(a.Items, b.Items)) && (len(a.Names) == 0 || reflect.DeepEqual(a.Names, b.Names)) && stroke.Same(a.Sheet, b.Sheet)
}

// do wants a reply of a call.
func do(t *testing.T, d *desk.Desk, x api.Call, want api.Reply) {
	t.Helper()
	if got := d.Do(x); !same(got, want) {
		t.Errorf("P20.2: Do(%+v): %+v, not %+v", x, got, want)
	}
}

func code(e api.Errno) api.Reply { return api.Reply{Code: e} }

// filled has two books, three notes, sheets 1, 2 on note 1, 3 on note 2.
func filled(t *testing.T, g api.Geometry) *desk.Desk {
	t.Helper()
	d := desk.New(g)
	do(t, d, api.Call{Do: api.CallBook, Name: "b"}, api.Reply{N: 1})
	do(t, d, api.Call{Do: api.CallBook, Name: "a"}, api.Reply{N: 2})
	do(t, d, api.Call{Do: api.CallNote, A: 1, Name: "x"}, api.Reply{N: 1})
	do(t, d, api.Call{Do: api.CallNote, A: 1, Name: "w"}, api.Reply{N: 2})
	do(t, d, api.Call{Do: api.CallNote, A: 2, Name: "x"}, api.Reply{N: 3})
	do(t, d, api.Call{Do: api.CallAppend, A: 1, Sheet: line(1 + 2i)}, api.Reply{N: 1})
	do(t, d, api.Call{Do: api.CallAppend, A: 1, Sheet: line(3)}, api.Reply{N: 2})
	do(t, d, api.Call{Do: api.CallAppend, A: 2, Sheet: line(4i, 5)}, api.Reply{N: 1})
	do(t, d, api.Call{Do: api.CallTag, A: 1, Name: "t"}, api.Reply{})
	do(t, d, api.Call{Do: api.CallTag, A: 1, Name: "s"}, api.Reply{})
	return d
}

func TestP20_1New(t *testing.T) {
	d := desk.New(wide)
	if d == nil || d.Need() != 2 || !reflect.DeepEqual(d.Shelf(), shelf.Empty()) {
		t.Fatal("P20.1: New")
	}
	if s, ok := d.Sheet(1); ok || len(s) != 0 {
		t.Error("P20.1: Sheet of a new one")
	}
	if desk.New(api.Geometry{}) != nil || desk.New(api.Geometry{Blocks: 8, Pages: 4, Bytes: 24, Spares: 3, Trigger: 5}) != nil {
		t.Error("P20.1: New of a geometry that may not be")
	}
	for _, g := range []api.Geometry{small, {Blocks: 8, Pages: 4, Bytes: 24, Spares: 2, Trigger: 2}} {
		if desk.New(g) == nil {
			t.Errorf("P20.1: New(%v) is nil", g)
		}
	}
}

func TestP20_2Lists(t *testing.T) {
	d := filled(t, wide)
	do(t, d, api.Call{Do: api.CallBooks}, api.Reply{Items: []api.Item{{ID: 2, Name: "a"}, {ID: 1, Name: "b"}}})
	do(t, d, api.Call{Do: api.CallNotes, A: 1}, api.Reply{Items: []api.Item{{ID: 2, Name: "w"}, {ID: 1, Name: "x"}}})
	do(t, d, api.Call{Do: api.CallNotes, A: 9}, code(api.ErrNone))
	do(t, d, api.Call{Do: api.CallRead, A: 1, B: 1}, api.Reply{Sheet: line(3)})
	do(t, d, api.Call{Do: api.CallRead, A: 1, B: 2}, code(api.ErrArg))
	do(t, d, api.Call{Do: api.CallRead, A: 1, B: -1}, code(api.ErrArg))
	do(t, d, api.Call{Do: api.CallRead, A: 9}, code(api.ErrNone))
	do(t, d, api.Call{Do: api.CallInfo, A: 1}, api.Reply{N: 1, Names: []string{"x", "s", "t"}, Items: []api.Item{{ID: 2}}})
	do(t, d, api.Call{Do: api.CallInfo, A: 3}, api.Reply{N: 2, Names: []string{"x"}, Items: []api.Item{{}}})
	do(t, d, api.Call{Do: api.CallInfo, A: 4}, code(api.ErrNone))
	do(t, d, api.Call{Do: api.CallSync, A: 7, Name: "x"}, api.Reply{})
	do(t, d, api.Call{Do: api.CallStat}, api.Reply{N: d.Need()})
	for _, x := range []int{0, -1, 20, 1 << 62, -1 << 63} {
		do(t, d, api.Call{Do: x, A: 1, Name: "new"}, code(api.ErrArg))
	}
}

func TestP20_2Changes(t *testing.T) {
	d := filled(t, wide)
	do(t, d, api.Call{Do: api.CallRename, A: 1, Name: "c"}, api.Reply{})
	do(t, d, api.Call{Do: api.CallRetitle, A: 3, Name: "y"}, api.Reply{})
	do(t, d, api.Call{Do: api.CallMove, A: 1, B: 2}, api.Reply{})
	do(t, d, api.Call{Do: api.CallInfo, A: 1}, api.Reply{N: 2, Names: []string{"x", "s", "t"}, Items: []api.Item{{ID: 2}}})
	do(t, d, api.Call{Do: api.CallBooks}, api.Reply{Items: []api.Item{{ID: 2, Name: "a"}, {ID: 1, Name: "c"}}})
	do(t, d, api.Call{Do: api.CallNotes, A: 2}, api.Reply{Items: []api.Item{{ID: 1, Name: "x"}, {ID: 3, Name: "y"}}})
	do(t, d, api.Call{Do: api.CallUntag, A: 1, Name: "s"}, api.Reply{})
	do(t, d, api.Call{Do: api.CallReplace, A: 1, B: 0, Sheet: line(7)}, api.Reply{})
	do(t, d, api.Call{Do: api.CallRead, A: 1, B: 0}, api.Reply{Sheet: line(7)})
	do(t, d, api.Call{Do: api.CallRemove, A: 1, B: 0}, api.Reply{})
	do(t, d, api.Call{Do: api.CallRead, A: 1, B: 0}, api.Reply{Sheet: line(3)})
	do(t, d, api.Call{Do: api.CallTurn, A: 1, B: 0, By: 2i}, api.Reply{})
	do(t, d, api.Call{Do: api.CallRead, A: 1, B: 0}, api.Reply{Sheet: line(6i)})
	do(t, d, api.Call{Do: api.CallInfo, A: 1}, api.Reply{N: 2, Names: []string{"x", "t"}, Items: []api.Item{{ID: 1}}})
	if _, ok := d.Sheet(1); ok {
		t.Error("P20.1: a sheet that was removed stands on the shelf")
	}
	do(t, d, api.Call{Do: api.CallDiscard, A: 1}, api.Reply{})
	do(t, d, api.Call{Do: api.CallInfo, A: 1}, code(api.ErrNone))
	if _, ok := d.Sheet(2); ok {
		t.Error("P20.1: a sheet of a note that was discarded stands on the shelf")
	}
	do(t, d, api.Call{Do: api.CallDrop, A: 1}, api.Reply{})
	if _, ok := d.Sheet(3); ok {
		t.Error("P20.1: a sheet of a book that was dropped stands on the shelf")
	}
	want := api.Shelf{NextBook: 3, NextNote: 4, NextSheet: 4, Books: []api.Book{{ID: 2, Name: "a"}}, Notes: []api.Note{{ID: 3, Book: 2, Name: "y"}}}
	if got, _ := coding.Lay(d.Shelf()); string(got) != string(lay(want)) {
		t.Errorf("P20.1: Shelf: %v", d.Shelf())
	}
	do(t, d, api.Call{Do: api.CallAppend, A: 3, Sheet: nil}, api.Reply{N: 1})
	do(t, d, api.Call{Do: api.CallRead, A: 3, B: 0}, api.Reply{})
}

func lay(s api.Shelf) []byte {
	b, _ := coding.Lay(s)
	return b
}

func TestP20_2Errors(t *testing.T) {
	d := filled(t, wide)
	wrong := line(0.5)
	for range 6 {
		d.Do(api.Call{Do: api.CallAppend, A: 3, Sheet: line(1)})
	}
	before := d.Copy()
	for _, x := range []struct {
		c api.Call
		e api.Errno
	}{
		{api.Call{Do: api.CallBook, Name: "a"}, api.ErrTwice}, {api.Call{Do: api.CallBook, Name: ""}, api.ErrName}, {api.Call{Do: api.CallNote, A: 9, Name: "q"}, api.ErrNone}, {api.Call{Do: api.CallNote, A: 1, Name: "x"}, api.ErrTwice}, {api.Call{Do: api.CallNote, A: 1, Name: "/"}, api.ErrName},
		{api.Call{Do: api.CallRename, A: 3, Name: "q"}, api.ErrNone}, {api.Call{Do: api.CallRename, A: 1, Name: "a"}, api.ErrTwice}, {api.Call{Do: api.CallDrop, A: 3}, api.ErrNone}, {api.Call{Do: api.CallRetitle, A: 1, Name: "w"}, api.ErrTwice}, {api.Call{Do: api.CallRetitle, A: 9, Name: "w"}, api.ErrNone},
		{api.Call{Do: api.CallMove, A: 1, B: 2}, api.ErrTwice}, {api.Call{Do: api.CallMove, A: 1, B: 3}, api.ErrNone}, {api.Call{Do: api.CallDiscard, A: 4}, api.ErrNone},
		{api.Call{Do: api.CallAppend, A: 9, Sheet: wrong}, api.ErrArg}, {api.Call{Do: api.CallAppend, A: 1, Sheet: wrong}, api.ErrArg}, {api.Call{Do: api.CallAppend, A: 9, Sheet: line(1)}, api.ErrNone}, {api.Call{Do: api.CallAppend, A: 1, Sheet: long(7)}, api.ErrArg},
		{api.Call{Do: api.CallReplace, A: 9, Sheet: wrong}, api.ErrArg}, {api.Call{Do: api.CallReplace, A: 9, Sheet: line(1)}, api.ErrNone}, {api.Call{Do: api.CallReplace, A: 1, B: 2, Sheet: line(1)}, api.ErrArg}, {api.Call{Do: api.CallReplace, A: 1, B: -1, Sheet: line(1)}, api.ErrArg},
		{api.Call{Do: api.CallRemove, A: 1, B: 2}, api.ErrArg}, {api.Call{Do: api.CallRemove, A: 9, B: 0}, api.ErrNone}, {api.Call{Do: api.CallTag, A: 1, Name: "t"}, api.ErrTwice}, {api.Call{Do: api.CallTag, A: 1, Name: ""}, api.ErrName}, {api.Call{Do: api.CallTag, A: 9, Name: ""}, api.ErrNone}, {api.Call{Do: api.CallUntag, A: 1, Name: "q"}, api.ErrNone},
		{api.Call{Do: api.CallTurn, A: 9, By: 1i}, api.ErrNone}, {api.Call{Do: api.CallTurn, A: 1, B: 2, By: 1i}, api.ErrArg}, {api.Call{Do: api.CallTurn, A: 1, B: 0, By: 0.5}, api.ErrArg}, {api.Call{Do: api.CallTurn, A: 1, B: 0, By: 30000}, api.ErrArg}, {api.Call{Do: api.CallTurn, A: 9, By: 0.5}, api.ErrNone},
		{api.Call{Do: 77}, api.ErrArg},
	} {
		do(t, d, x.c, code(x.e))
		if !desk.Same(d, before) {
			t.Fatalf("P20.2: Do(%+v) changed the desk beside an error", x.c)
		}
	}
	d.Do(api.Call{Do: api.CallAppend, A: 3, Sheet: line(1)})
	d.Do(api.Call{Do: api.CallAppend, A: 3, Sheet: line(1)})
	do(t, d, api.Call{Do: api.CallAppend, A: 3, Sheet: line(1)}, code(api.ErrFull))
	do(t, d, api.Call{Do: api.CallAppend, A: 3, Sheet: wrong}, code(api.ErrArg))
}

// need reckons what a desk needs, by its shelf and sheets.
func need(d *desk.Desk, g api.Geometry) int {
	sizes := []int{coding.Size(d.Shelf())}
	for object := range 4096 {
		if s, ok := d.Sheet(object); ok {
			sizes = append(sizes, stroke.Size(s))
		}
	}
	return extent.Need(g, sizes)
}

// TestP20_2Space fills desks till nothing more goes in.
func TestP20_2Space(t *testing.T) {
	for _, g := range []api.Geometry{small, wide, {Blocks: 8, Pages: 4, Bytes: 24, Spares: 2, Trigger: 2}} {
		d := desk.New(g)
		d.Do(api.Call{Do: api.CallBook, Name: "b"})
		for i := range 12 {
			d.Do(api.Call{Do: api.CallNote, A: 1, Name: string(rune('a' + i))})
		}
		full := false
		for i := range 200 {
			before := d.Copy()
			r := d.Do(api.Call{Do: api.CallAppend, A: 1 + i%12, Sheet: long(1 + i%6)})
			if d.Need() != need(d, g) || d.Need() > geom.Logical(g) {
				t.Fatalf("P20.1: Need: %d, not %d", d.Need(), need(d, g))
			}
			if r.Code == api.ErrSpace {
				full = true
				if !desk.Same(d, before) || r.N != 0 {
					t.Errorf("P20.2: ErrSpace changed the desk: %+v", r)
				}
			}
		}
		if !full {
			t.Errorf("P20.2: over %v nothing was too much", g)
		}
		do(t, d, api.Call{Do: api.CallStat}, api.Reply{N: d.Need()})
	}
}

// TestP20_2Edge has 8 pages: all of them may be full, and one byte more is too much.
func TestP20_2Edge(t *testing.T) {
	d := desk.New(small)
	d.Do(api.Call{Do: api.CallBook, Name: "b"})
	d.Do(api.Call{Do: api.CallNote, A: 1, Name: "n"})
	// The shelf has 30 bytes, each sheet 43, 2 pages each; the index of these 6 pages has 2.
	do(t, d, api.Call{Do: api.CallAppend, A: 1, Sheet: long(1)}, api.Reply{N: 1})
	do(t, d, api.Call{Do: api.CallAppend, A: 1, Sheet: long(1)}, api.Reply{N: 2})
	do(t, d, api.Call{Do: api.CallStat}, api.Reply{N: 8})
	before := d.Copy()
	if l := desk.Load(small, d.Shelf(), []api.Sheet{long(1), long(1)}); !desk.Same(l, d) {
		t.Error("P20.1: Load of as much as there is room for")
	}
	more := append(long(1), line(1)...)
	if desk.Load(small, d.Shelf(), []api.Sheet{long(1), more}) != nil {
		t.Error("P20.1: Load of more than there is room for")
	}
	do(t, d, api.Call{Do: api.CallReplace, A: 1, B: 0, Sheet: more}, code(api.ErrSpace))
	do(t, d, api.Call{Do: api.CallReplace, A: 1, B: 2, Sheet: more}, code(api.ErrArg))
	do(t, d, api.Call{Do: api.CallAppend, A: 1}, code(api.ErrSpace))
	do(t, d, api.Call{Do: api.CallBook, Name: strings.Repeat("x", 15)}, code(api.ErrSpace))
	do(t, d, api.Call{Do: api.CallBook, Name: "b"}, code(api.ErrTwice))
	do(t, d, api.Call{Do: api.CallRename, A: 1, Name: strings.Repeat("x", 20)}, code(api.ErrSpace))
	do(t, d, api.Call{Do: api.CallTag, A: 1, Name: strings.Repeat("x", 18)}, code(api.ErrSpace))
	do(t, d, api.Call{Do: api.CallNote, A: 1, Name: strings.Repeat("x", 10)}, code(api.ErrSpace))
	do(t, d, api.Call{Do: api.CallRetitle, A: 1, Name: strings.Repeat("x", 20)}, code(api.ErrSpace))
	do(t, d, api.Call{Do: api.CallStat}, api.Reply{N: 8})
	if !desk.Same(d, before) {
		t.Error("P20.2: ErrSpace changed the desk")
	}
	do(t, d, api.Call{Do: api.CallRename, A: 1, Name: strings.Repeat("x", 19)}, api.Reply{})
	do(t, d, api.Call{Do: api.CallRetitle, A: 1, Name: "nn"}, code(api.ErrSpace))
	do(t, d, api.Call{Do: api.CallTurn, A: 1, B: 0, By: 1i}, api.Reply{})
	do(t, d, api.Call{Do: api.CallRemove, A: 1, B: 0}, api.Reply{})
	do(t, d, api.Call{Do: api.CallStat}, api.Reply{N: need(d, small)})
}

func TestP20_1CopySame(t *testing.T) {
	d := filled(t, wide)
	c := d.Copy()
	if !desk.Same(d, c) || !desk.Same(nil, nil) || desk.Same(d, nil) || desk.Same(nil, d) || desk.Same(d, desk.New(wide)) {
		t.Error("P20.1: Same")
	}
	for _, x := range []api.Call{
		{Do: api.CallBook, Name: "n"}, {Do: api.CallNote, A: 1, Name: "n"}, {Do: api.CallRename, A: 1, Name: "n"}, {Do: api.CallRetitle, A: 1, Name: "n"}, {Do: api.CallMove, A: 2, B: 2}, {Do: api.CallTag, A: 3, Name: "n"}, {Do: api.CallUntag, A: 1, Name: "t"},
		{Do: api.CallAppend, A: 3}, {Do: api.CallReplace, A: 1, B: 0, Sheet: line(1 - 2i)}, {Do: api.CallTurn, A: 1, B: 1, By: -1}, {Do: api.CallRemove, A: 2}, {Do: api.CallDiscard, A: 3}, {Do: api.CallDrop, A: 2},
	} {
		e := d.Copy()
		if r := e.Do(x); r.Code != api.OK {
			t.Fatalf("P20.2: Do(%+v): %+v", x, r)
		}
		if desk.Same(d, e) || desk.Same(e, d) || !desk.Same(d, c) {
			t.Errorf("P20.1: Same, or Copy, and Do(%+v)", x)
		}
	}
	// A number that was given and is no more used tells two desks apart.
	e := d.Copy()
	e.Do(api.Call{Do: api.CallBook, Name: "n"})
	e.Do(api.Call{Do: api.CallDrop, A: 3})
	if desk.Same(d, e) {
		t.Error("P20.1: Same of other next numbers")
	}
}

func TestR4(t *testing.T) {
	sheet := line(1, 2)
	d := filled(t, wide)
	do(t, d, api.Call{Do: api.CallAppend, A: 3, Sheet: sheet}, api.Reply{N: 1})
	do(t, d, api.Call{Do: api.CallReplace, A: 1, B: 0, Sheet: sheet}, api.Reply{})
	c := d.Copy()
	sheet[0].Points[0] = 99
	r := d.Do(api.Call{Do: api.CallRead, A: 3})
	r.Sheet[0].Points[0] = 98
	s, ok := d.Sheet(4)
	if !ok {
		t.Fatal("P20.1: Sheet")
	}
	s[0].Points[1] = 97
	sh := d.Shelf()
	sh.Notes[0].Tags[0] = "spoilt"
	sh.Books[0].Name = "spoilt"
	i := d.Do(api.Call{Do: api.CallInfo, A: 1})
	i.Names[1] = "spoilt"
	if !desk.Same(d, c) {
		t.Error("R4: a desk shares memory")
	}
	do(t, d, api.Call{Do: api.CallRead, A: 3}, api.Reply{Sheet: line(1, 2)})
}

func TestR3Nil(t *testing.T) {
	var d *desk.Desk
	for x := range 21 {
		do(t, d, api.Call{Do: x}, code(api.ErrNil))
	}
	s, ok := d.Sheet(0)
	if d.Copy() != nil || d.Need() != 0 || ok || len(s) != 0 || !reflect.DeepEqual(d.Shelf(), api.Shelf{}) {
		t.Error("R3: a nil desk tells something")
	}
}

func TestP20_1Load(t *testing.T) {
	d := filled(t, wide)
	do(t, d, api.Call{Do: api.CallMove, A: 1, B: 2}, code(api.ErrTwice))
	do(t, d, api.Call{Do: api.CallRemove, A: 1, B: 0}, api.Reply{})
	do(t, d, api.Call{Do: api.CallAppend, A: 1, Sheet: line(8)}, api.Reply{N: 2})
	sheets := []api.Sheet{line(3), line(4i, 5), line(8)}
	l := desk.Load(wide, d.Shelf(), sheets)
	if l == nil || !desk.Same(l, d) {
		t.Fatal("P20.1: Load")
	}
	sheets[0][0].Points[0] = 99
	if !desk.Same(l, d) {
		t.Error("R4: Load keeps its sheets")
	}
	do(t, l, api.Call{Do: api.CallRead, A: 1, B: 1}, api.Reply{Sheet: line(8)})
	do(t, l, api.Call{Do: api.CallBook, Name: "new"}, api.Reply{N: 3})
	sheets = []api.Sheet{line(3), line(4i, 5), line(8)}
	broken := d.Shelf()
	broken.NextSheet = 3
	for i, x := range []*desk.Desk{
		desk.Load(api.Geometry{}, d.Shelf(), sheets), desk.Load(wide, broken, sheets), desk.Load(wide, api.Shelf{}, nil), desk.Load(wide, d.Shelf(), sheets[:2]), desk.Load(wide, d.Shelf(), append(sheets, line(1))), desk.Load(wide, d.Shelf(), nil),
		desk.Load(wide, d.Shelf(), []api.Sheet{line(3), line(0.5), line(8)}), desk.Load(wide, shelf.Empty(), sheets[:1]), desk.Load(small, d.Shelf(), []api.Sheet{long(6), long(6), long(6)}),
	} {
		if x != nil {
			t.Errorf("P20.1: Load %d is not nil", i)
		}
	}
	if e := desk.Load(small, shelf.Empty(), nil); !desk.Same(e, desk.New(small)) {
		t.Error("P20.1: Load of an empty shelf")
	}
}

// TestExample is the chapter's.
func TestExample(t *testing.T) {
	d := desk.New(small)
	do(t, d, api.Call{Do: api.CallBook, Name: "a"}, api.Reply{N: 1})
	do(t, d, api.Call{Do: api.CallBook, Name: "a"}, code(api.ErrTwice))
}

// TestTurnFourTimes is the tenth example of the whole.
func TestTurnFourTimes(t *testing.T) {
	d := filled(t, wide)
	c := d.Copy()
	for i := range 4 {
		if i > 0 && desk.Same(c, d) {
			t.Errorf("P20.2: turned %d times it is the same", i)
		}
		do(t, d, api.Call{Do: api.CallTurn, A: 2, B: 0, By: 1i}, api.Reply{})
	}
	if !desk.Same(c, d) {
		t.Error("P20.2: turned four times it is another one")
	}
}
