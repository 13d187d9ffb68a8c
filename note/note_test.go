package note_test

import (
	"reflect"
	"strings"
	"testing"

	"jotter/api"
	"jotter/note"
	"jotter/shelf"
)

func want(t *testing.T, what string, got api.Errno, want api.Errno) {
	t.Helper()
	if got != want {
		t.Errorf("%s: %d, not %d", what, got, want)
	}
}

func same(a, b api.Shelf) bool { return reflect.DeepEqual(plain(a), plain(b)) }

// plain makes all empty lists alike.
func plain(s api.Shelf) api.Shelf {
	books := append([]api.Book{}, s.Books...)
	notes := []api.Note{}
	for _, n := range s.Notes {
		n.Tags = append([]string{}, n.Tags...)
		n.Sheets = append([]int{}, n.Sheets...)
		notes = append(notes, n)
	}
	s.Books, s.Notes = books, notes
	return s
}

func sample() api.Shelf {
	return api.Shelf{
		NextBook: 3, NextNote: 10, NextSheet: 30,
		Books: []api.Book{{ID: 2, Name: "home"}},
		Notes: []api.Note{
			{ID: 1, Book: 2, Name: "a", Tags: []string{"blue", "red"}, Sheets: []int{7, 3, 12}},
			{ID: 4, Book: 2, Name: "b"},
			{ID: 9, Book: 2, Name: "c", Tags: []string{"a", "b", "c", "d"}, Sheets: []int{21, 22, 23, 24, 25, 26, 27, 28}},
		},
	}
}

func with(change func(s *api.Shelf)) api.Shelf {
	s := sample()
	change(&s)
	return s
}

type call func(s api.Shelf) (api.Shelf, int, api.Errno)

func tag(n int, name string) call {
	return func(s api.Shelf) (api.Shelf, int, api.Errno) { a, e := note.Tag(s, n, name); return a, 0, e }
}

func untag(n int, name string) call {
	return func(s api.Shelf) (api.Shelf, int, api.Errno) { a, e := note.Untag(s, n, name); return a, 0, e }
}

func add(n int) call {
	return func(s api.Shelf) (api.Shelf, int, api.Errno) { return note.Append(s, n) }
}

func replace(n int, i int) call {
	return func(s api.Shelf) (api.Shelf, int, api.Errno) { return note.Replace(s, n, i) }
}

func remove(n int, i int) call {
	return func(s api.Shelf) (api.Shelf, int, api.Errno) { return note.Remove(s, n, i) }
}

// sheet has no shelf to answer.
func sheet(n int, i int) call {
	return func(s api.Shelf) (api.Shelf, int, api.Errno) { k, e := note.Sheet(s, n, i); return api.Shelf{}, k, e }
}

func TestP18_1Errors(t *testing.T) {
	full := with(func(s *api.Shelf) { s.NextSheet = 4096 })
	for _, x := range []struct {
		what string
		s    api.Shelf
		do   call
		want api.Errno
	}{
		{"Tag", sample(), tag(2, "x"), api.ErrNone}, {"Tag", sample(), tag(2, ""), api.ErrNone}, {"Tag", sample(), tag(1, ""), api.ErrName}, {"Tag", sample(), tag(1, strings.Repeat("x", 21)), api.ErrName}, {"Tag", sample(), tag(1, "red"), api.ErrTwice}, {"Tag", sample(), tag(9, "e"), api.ErrFull}, {"Tag", sample(), tag(9, "d"), api.ErrTwice}, {"Tag", sample(), tag(9, "/"), api.ErrName},
		{"Untag", sample(), untag(2, "red"), api.ErrNone}, {"Untag", sample(), untag(1, "re"), api.ErrNone}, {"Untag", sample(), untag(1, ""), api.ErrNone}, {"Untag", sample(), untag(4, "red"), api.ErrNone},
		{"Append", sample(), add(2), api.ErrNone}, {"Append", sample(), add(9), api.ErrFull}, {"Append", full, add(1), api.ErrFull}, {"Append", full, add(2), api.ErrNone},
		{"Replace", sample(), replace(2, 0), api.ErrNone}, {"Replace", sample(), replace(1, -1), api.ErrArg}, {"Replace", sample(), replace(1, 3), api.ErrArg}, {"Replace", sample(), replace(4, 0), api.ErrArg}, {"Replace", sample(), replace(2, -1), api.ErrNone},
		{"Remove", sample(), remove(2, 0), api.ErrNone}, {"Remove", sample(), remove(1, -1), api.ErrArg}, {"Remove", sample(), remove(1, 3), api.ErrArg}, {"Remove", sample(), remove(4, 0), api.ErrArg}, {"Remove", sample(), remove(1, 1<<62), api.ErrArg},
		{"Sheet", sample(), sheet(2, 0), api.ErrNone}, {"Sheet", sample(), sheet(1, -1), api.ErrArg}, {"Sheet", sample(), sheet(1, 3), api.ErrArg}, {"Sheet", sample(), sheet(4, 0), api.ErrArg}, {"Sheet", sample(), sheet(1, -1<<63), api.ErrArg},
	} {
		before := plain(x.s)
		got, n, e := x.do(x.s)
		want(t, "P18.1: "+x.what, e, x.want)
		if n != 0 || !same(got, api.Shelf{}) {
			t.Errorf("R2: %s beside an error: %v, %d", x.what, got, n)
		}
		if !same(x.s, before) {
			t.Errorf("R4: %s changed its shelf", x.what)
		}
	}
	for _, s := range []api.Shelf{{}, with(func(s *api.Shelf) { s.NextSheet = 5 }), with(func(s *api.Shelf) { s.Notes[1].Book = 1 }), with(func(s *api.Shelf) { s.Notes[0].Tags[0] = "z" })} {
		for _, do := range []call{tag(1, "x"), tag(2, "x"), tag(1, ""), untag(1, "red"), untag(2, "x"), add(1), add(2), replace(1, 0), replace(2, 9), remove(1, 0), remove(2, 0), sheet(1, 0), sheet(2, 0)} {
			got, n, e := do(s)
			want(t, "P18.1: a shelf that may not be", e, api.ErrArg)
			if n != 0 || !same(got, api.Shelf{}) {
				t.Errorf("R2: beside ErrArg: %v, %d", got, n)
			}
		}
	}
}

func TestP18_1Changes(t *testing.T) {
	for _, x := range []struct {
		what string
		do   call
		n    int
		want api.Shelf
	}{
		{"Tag", tag(1, "x"), 0, with(func(s *api.Shelf) { s.Notes[0].Tags = []string{"blue", "red", "x"} })},
		{"Tag", tag(1, "a"), 0, with(func(s *api.Shelf) { s.Notes[0].Tags = []string{"a", "blue", "red"} })},
		{"Tag", tag(1, "green"), 0, with(func(s *api.Shelf) { s.Notes[0].Tags = []string{"blue", "green", "red"} })},
		{"Tag", tag(4, "blue"), 0, with(func(s *api.Shelf) { s.Notes[1].Tags = []string{"blue"} })},
		{"Untag", untag(1, "blue"), 0, with(func(s *api.Shelf) { s.Notes[0].Tags = []string{"red"} })},
		{"Untag", untag(9, "d"), 0, with(func(s *api.Shelf) { s.Notes[2].Tags = []string{"a", "b", "c"} })},
		{"Append", add(1), 30, with(func(s *api.Shelf) { s.Notes[0].Sheets = []int{7, 3, 12, 30}; s.NextSheet = 31 })},
		{"Append", add(4), 30, with(func(s *api.Shelf) { s.Notes[1].Sheets = []int{30}; s.NextSheet = 31 })},
		{"Replace", replace(1, 1), 3, sample()}, {"Replace", replace(9, 7), 28, sample()},
		{"Remove", remove(1, 0), 7, with(func(s *api.Shelf) { s.Notes[0].Sheets = []int{3, 12} })},
		{"Remove", remove(1, 2), 12, with(func(s *api.Shelf) { s.Notes[0].Sheets = []int{7, 3} })},
	} {
		s := sample()
		got, n, e := x.do(s)
		want(t, "P18.1: "+x.what, e, api.OK)
		if n != x.n || !same(got, x.want) || !shelf.May(got) {
			t.Errorf("P18.1: %s: %v, %d, not %v, %d", x.what, got, n, x.want, x.n)
		}
		for i := range got.Notes {
			got.Notes[i].Name = "spoilt"
			for j := range got.Notes[i].Tags {
				got.Notes[i].Tags[j] = "spoilt"
			}
			for j := range got.Notes[i].Sheets {
				got.Notes[i].Sheets[j] = -1
			}
		}
		got.Books[0].Name = "spoilt"
		if !same(s, sample()) {
			t.Errorf("R4: %s shares memory with its shelf: %v", x.what, s)
		}
	}
}

// TestR4SpareRoom has lists with room behind them, where an append in place would write.
func TestR4SpareRoom(t *testing.T) {
	tags, sheets := []string{"b", "c", "spare"}, []int{5, 6, 99}
	s := with(func(s *api.Shelf) { s.Notes[0].Tags = tags[:2]; s.Notes[0].Sheets = sheets[:2] })
	for _, do := range []call{tag(1, "a"), tag(1, "z"), add(1), remove(1, 0), untag(1, "b")} {
		_, _, e := do(s)
		want(t, "P18.1", e, api.OK)
	}
	if !reflect.DeepEqual(tags, []string{"b", "c", "spare"}) || !reflect.DeepEqual(sheets, []int{5, 6, 99}) {
		t.Errorf("R4: what was handed in was changed: %v, %v", tags, sheets)
	}
}

func TestP18_1Sheets(t *testing.T) {
	s, b, _ := shelf.Make(shelf.Empty(), "b")
	s, n, _ := shelf.Note(s, b, "n")
	s, first, e := note.Append(s, n)
	want(t, "P18.1: Append", e, api.OK)
	s, second, e := note.Append(s, n)
	want(t, "P18.1: Append", e, api.OK)
	s, gone, e := note.Remove(s, n, 0)
	want(t, "P18.1: Remove", e, api.OK)
	left, e := note.Sheet(s, n, 0)
	want(t, "P18.1: Sheet", e, api.OK)
	if first != 1 || second != 2 || gone != 1 || left != 2 {
		t.Errorf("P18.1: the chapter's example: %d, %d, %d, %d", first, second, gone, left)
	}
	s.NextSheet = 4095
	s, last, e := note.Append(s, n)
	want(t, "P18.1: the last sheet", e, api.OK)
	if last != 4095 || s.NextSheet != 4096 || !shelf.May(s) {
		t.Errorf("P18.1: the last sheet: %d, %v", last, s)
	}
	_, _, e = note.Append(s, n)
	want(t, "P18.1: one behind the last", e, api.ErrFull)
}
