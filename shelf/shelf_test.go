package shelf_test

import (
	"reflect"
	"strings"
	"testing"

	"jotter/api"
	"jotter/shelf"
)

func want(t *testing.T, what string, got api.Errno, want api.Errno) {
	t.Helper()
	if got != want {
		t.Errorf("%s: %d, not %d", what, got, want)
	}
}

// same holds two values against each other; a list that is nil is an empty one.
func same(a, b api.Shelf) bool { return reflect.DeepEqual(plain(a), plain(b)) }

func plain(s api.Shelf) api.Shelf {
	books := append([]api.Book{}, s.Books...)
	notes := []api.Note{}
	for _, n := range s.Notes {
		n.Tags = append([]string{}, n.Tags...)
		n.Sheets = append([]int{}, n.Sheets...)
		notes = append(notes, n)
	}
	s.Books, s.Notes = books, notes
	return s
}

// sample has two books, three notes.
func sample() api.Shelf {
	return api.Shelf{
		NextBook: 6, NextNote: 10, NextSheet: 30,
		Books: []api.Book{{ID: 2, Name: "home"}, {ID: 5, Name: "a book"}},
		Notes: []api.Note{
			{ID: 1, Book: 5, Name: "z", Tags: []string{"blue", "red"}, Sheets: []int{7, 3}},
			{ID: 4, Book: 2, Name: "z"},
			{ID: 9, Book: 5, Name: "b", Tags: []string{"x"}, Sheets: []int{29, 1}},
		},
	}
}

// with is the sample, changed.
func with(change func(s *api.Shelf)) api.Shelf {
	s := sample()
	change(&s)
	return s
}

func wrongShelves() []api.Shelf {
	many := func(n int) []api.Book {
		var bs []api.Book
		for i := range n {
			bs = append(bs, api.Book{ID: i + 1, Name: string(rune('a' + i))})
		}
		return bs
	}
	notes := func(n int) []api.Note {
		var ns []api.Note
		for i := range n {
			ns = append(ns, api.Note{ID: i + 1, Book: 2, Name: string(rune('a' + i))})
		}
		return ns
	}
	return []api.Shelf{
		{}, {NextBook: 1, NextNote: 1}, {NextBook: 1, NextSheet: 1}, {NextNote: 1, NextSheet: 1}, {NextBook: -1, NextNote: 1, NextSheet: 1},
		{NextBook: 1<<16 + 1, NextNote: 1, NextSheet: 1}, {NextBook: 1, NextNote: 1<<16 + 1, NextSheet: 1}, {NextBook: 1, NextNote: 1, NextSheet: 4097}, {NextBook: 1, NextNote: 1, NextSheet: 1 << 62}, {NextBook: 1, NextNote: 1, NextSheet: -1 << 63},
		with(func(s *api.Shelf) { s.Books = many(7); s.NextBook = 99 }),
		with(func(s *api.Shelf) { s.Notes = notes(13); s.NextNote = 99 }),
		with(func(s *api.Shelf) { s.NextBook = 5 }), with(func(s *api.Shelf) { s.NextNote = 9 }), with(func(s *api.Shelf) { s.NextSheet = 29 }),
		with(func(s *api.Shelf) { s.Books[0].ID = 0 }), with(func(s *api.Shelf) { s.Books[1].ID = 2 }), with(func(s *api.Shelf) { s.Books[0], s.Books[1] = s.Books[1], s.Books[0] }),
		with(func(s *api.Shelf) { s.Books[0].Name = "a book" }), with(func(s *api.Shelf) { s.Books[0].Name = "" }), with(func(s *api.Shelf) { s.Books[0].Name = "a/b" }),
		with(func(s *api.Shelf) { s.Notes[0].ID = 0 }), with(func(s *api.Shelf) { s.Notes[1].ID = 1 }), with(func(s *api.Shelf) { s.Notes[0], s.Notes[1] = s.Notes[1], s.Notes[0] }),
		with(func(s *api.Shelf) { s.Notes[1].Book = 3 }), with(func(s *api.Shelf) { s.Notes[1].Book = 0 }), with(func(s *api.Shelf) { s.Notes[1].Book = 5 }), with(func(s *api.Shelf) { s.Notes[2].Name = "z" }), with(func(s *api.Shelf) { s.Notes[1].Name = " z" }),
		with(func(s *api.Shelf) { s.Notes[0].Tags = []string{"red", "blue"} }), with(func(s *api.Shelf) { s.Notes[0].Tags = []string{"red", "red"} }), with(func(s *api.Shelf) { s.Notes[0].Tags = []string{""} }), with(func(s *api.Shelf) { s.Notes[0].Tags = []string{"a", "b", "c", "d", "e"} }),
		with(func(s *api.Shelf) { s.Notes[0].Sheets = []int{0} }), with(func(s *api.Shelf) { s.Notes[0].Sheets = []int{30} }), with(func(s *api.Shelf) { s.Notes[0].Sheets = []int{3, 3} }), with(func(s *api.Shelf) { s.Notes[0].Sheets = []int{29} }), with(func(s *api.Shelf) { s.Notes[0].Sheets = []int{-5} }),
		with(func(s *api.Shelf) { s.Notes[0].Sheets = []int{2, 3, 4, 5, 6, 7, 8, 9, 10} }), with(func(s *api.Shelf) { s.Notes[0].Sheets = []int{1 << 62} }),
	}
}

func TestP17_1May(t *testing.T) {
	for i, s := range []api.Shelf{
		shelf.Empty(), sample(), {NextBook: 1 << 16, NextNote: 1 << 16, NextSheet: 4096}, with(func(s *api.Shelf) { s.Notes[0].Sheets = []int{2, 3, 4, 5, 6, 7, 8, 9} }), with(func(s *api.Shelf) { s.Notes[0].Tags = []string{"A", "a", "b", "ba"} }),
		with(func(s *api.Shelf) { s.NextSheet = 4096; s.Notes[0].Sheets = []int{4095} }), with(func(s *api.Shelf) { s.Books[0].Name = "z" }),
	} {
		if !shelf.May(s) {
			t.Errorf("P17.1: May of right shelf %d is false", i)
		}
	}
	for i, s := range wrongShelves() {
		if shelf.May(s) {
			t.Errorf("P17.1: May of wrong shelf %d is true: %v", i, s)
		}
	}
	if got := shelf.Empty(); !same(got, api.Shelf{NextBook: 1, NextNote: 1, NextSheet: 1}) {
		t.Errorf("P17.1: Empty: %v", got)
	}
}

// call is one call on a shelf: its shelf, its number, its error.
type call func(s api.Shelf) (api.Shelf, int, api.Errno)

func makeBook(name string) call {
	return func(s api.Shelf) (api.Shelf, int, api.Errno) { return shelf.Make(s, name) }
}

func rename(book int, name string) call {
	return func(s api.Shelf) (api.Shelf, int, api.Errno) {
		a, e := shelf.Rename(s, book, name)
		return a, 0, e
	}
}

func drop(book int) call {
	return func(s api.Shelf) (api.Shelf, int, api.Errno) { a, e := shelf.Drop(s, book); return a, 0, e }
}

func note(book int, name string) call {
	return func(s api.Shelf) (api.Shelf, int, api.Errno) { return shelf.Note(s, book, name) }
}

func retitle(note int, name string) call {
	return func(s api.Shelf) (api.Shelf, int, api.Errno) {
		a, e := shelf.Retitle(s, note, name)
		return a, 0, e
	}
}

func move(note int, book int) call {
	return func(s api.Shelf) (api.Shelf, int, api.Errno) { a, e := shelf.Move(s, note, book); return a, 0, e }
}

func discard(note int) call {
	return func(s api.Shelf) (api.Shelf, int, api.Errno) { a, e := shelf.Discard(s, note); return a, 0, e }
}

func TestP17_1Errors(t *testing.T) {
	six := shelf.Empty()
	for i := range 6 {
		six, _, _ = shelf.Make(six, string(rune('a'+i)))
	}
	twelve := six
	for i := range 12 {
		twelve, _, _ = shelf.Note(twelve, 1+i%2, string(rune('a'+i)))
	}
	last := api.Shelf{NextBook: 1 << 16, NextNote: 1 << 16, NextSheet: 1, Books: []api.Book{{ID: 1, Name: "b"}}}
	long := strings.Repeat("x", 21)
	for _, x := range []struct {
		what string
		s    api.Shelf
		do   call
		want api.Errno
	}{
		{"Make", sample(), makeBook(""), api.ErrName}, {"Make", sample(), makeBook(long), api.ErrName}, {"Make", sample(), makeBook("home"), api.ErrTwice}, {"Make", six, makeBook("x"), api.ErrFull}, {"Make", six, makeBook("a"), api.ErrTwice}, {"Make", six, makeBook("/"), api.ErrName}, {"Make", last, makeBook("x"), api.ErrFull}, {"Make", last, makeBook("b"), api.ErrTwice},
		{"Rename", sample(), rename(3, "x"), api.ErrNone}, {"Rename", sample(), rename(3, ""), api.ErrNone}, {"Rename", sample(), rename(0, "home"), api.ErrNone}, {"Rename", sample(), rename(2, " "), api.ErrName}, {"Rename", sample(), rename(2, "a book"), api.ErrTwice},
		{"Drop", sample(), drop(1), api.ErrNone}, {"Drop", sample(), drop(-1), api.ErrNone},
		{"Note", sample(), note(1, "x"), api.ErrNone}, {"Note", sample(), note(1, ""), api.ErrNone}, {"Note", sample(), note(2, ""), api.ErrName}, {"Note", sample(), note(5, "z"), api.ErrTwice}, {"Note", twelve, note(1, "x"), api.ErrFull}, {"Note", twelve, note(1, "a"), api.ErrTwice}, {"Note", twelve, note(9, "x"), api.ErrNone}, {"Note", last, note(1, "x"), api.ErrFull},
		{"Retitle", sample(), retitle(2, "x"), api.ErrNone}, {"Retitle", sample(), retitle(2, ""), api.ErrNone}, {"Retitle", sample(), retitle(1, "x/"), api.ErrName}, {"Retitle", sample(), retitle(1, "b"), api.ErrTwice},
		{"Move", sample(), move(2, 2), api.ErrNone}, {"Move", sample(), move(1, 3), api.ErrNone}, {"Move", sample(), move(1, 2), api.ErrTwice}, {"Move", sample(), move(4, 5), api.ErrTwice},
		{"Discard", sample(), discard(2), api.ErrNone}, {"Discard", sample(), discard(0), api.ErrNone},
	} {
		before := plain(x.s)
		got, n, e := x.do(x.s)
		want(t, "P17.1: "+x.what, e, x.want)
		if n != 0 || !same(got, api.Shelf{}) {
			t.Errorf("R2: %s beside an error: %v, %d", x.what, got, n)
		}
		if !same(x.s, before) {
			t.Errorf("R4: %s changed its shelf", x.what)
		}
	}
	for _, s := range wrongShelves() {
		for _, do := range []call{makeBook("new"), makeBook(""), rename(2, "x"), rename(99, "x"), drop(2), drop(99), note(2, "x"), note(99, ""), retitle(1, "x"), retitle(99, "x"), move(1, 2), move(99, 2), discard(1), discard(99)} {
			got, n, e := do(s)
			want(t, "P17.1: a shelf that may not be", e, api.ErrArg)
			if n != 0 || !same(got, api.Shelf{}) {
				t.Errorf("R2: beside ErrArg: %v, %d", got, n)
			}
		}
		items, e := shelf.Notes(s, 2)
		want(t, "P17.1: Notes of a shelf that may not be", e, api.ErrArg)
		n, ok := shelf.Find(s, 1)
		if len(items) != 0 || len(shelf.Books(s)) != 0 || ok || n.ID != 0 || n.Name != "" || n.Book != 0 || len(n.Tags)+len(n.Sheets) != 0 {
			t.Errorf("P17.1: a shelf that may not be tells something: %v", s)
		}
	}
}

func TestP17_1Changes(t *testing.T) {
	for _, x := range []struct {
		what string
		do   call
		n    int
		want api.Shelf
	}{
		{"Make", makeBook("c"), 6, with(func(s *api.Shelf) { s.Books = append(s.Books, api.Book{ID: 6, Name: "c"}); s.NextBook = 7 })},
		{"Make of a note's name", makeBook("z"), 6, with(func(s *api.Shelf) { s.Books = append(s.Books, api.Book{ID: 6, Name: "z"}); s.NextBook = 7 })},
		{"Rename", rename(2, "c"), 0, with(func(s *api.Shelf) { s.Books[0].Name = "c" })},
		{"Rename to its own", rename(2, "home"), 0, sample()},
		{"Drop", drop(5), 0, with(func(s *api.Shelf) { s.Books = s.Books[:1]; s.Notes = s.Notes[1:2] })},
		{"Drop", drop(2), 0, with(func(s *api.Shelf) { s.Books = s.Books[1:]; s.Notes = []api.Note{s.Notes[0], s.Notes[2]} })},
		{"Note", note(2, "b"), 10, with(func(s *api.Shelf) { s.Notes = append(s.Notes, api.Note{ID: 10, Book: 2, Name: "b"}); s.NextNote = 11 })},
		{"Retitle", retitle(4, "b"), 0, with(func(s *api.Shelf) { s.Notes[1].Name = "b" })},
		{"Retitle to its own", retitle(1, "z"), 0, sample()},
		{"Move", move(9, 2), 0, with(func(s *api.Shelf) { s.Notes[2].Book = 2 })},
		{"Move to its own", move(9, 5), 0, sample()},
		{"Discard", discard(4), 0, with(func(s *api.Shelf) { s.Notes = []api.Note{s.Notes[0], s.Notes[2]} })},
		{"Discard", discard(1), 0, with(func(s *api.Shelf) { s.Notes = s.Notes[1:] })},
		{"Discard", discard(9), 0, with(func(s *api.Shelf) { s.Notes = s.Notes[:2] })},
	} {
		s := sample()
		got, n, e := x.do(s)
		want(t, "P17.1: "+x.what, e, api.OK)
		if n != x.n || !same(got, x.want) || !shelf.May(got) {
			t.Errorf("P17.1: %s: %v, %d, not %v, %d", x.what, got, n, x.want, x.n)
		}
		if !same(s, sample()) {
			t.Errorf("R4: %s changed its shelf", x.what)
		}
		spoil(&got)
		if !same(s, sample()) {
			t.Errorf("R4: %s shares memory with its shelf", x.what)
		}
	}
}

// spoil changes every list of a shelf in place.
func spoil(s *api.Shelf) {
	for i := range s.Books {
		s.Books[i].Name = "spoilt"
	}
	for i := range s.Notes {
		for j := range s.Notes[i].Tags {
			s.Notes[i].Tags[j] = "spoilt"
		}
		for j := range s.Notes[i].Sheets {
			s.Notes[i].Sheets[j] = -1
		}
		s.Notes[i].Name = "spoilt"
	}
}

func TestP17_1Last(t *testing.T) {
	s := api.Shelf{NextBook: 1<<16 - 1, NextNote: 1<<16 - 1, NextSheet: 1}
	s, n, e := shelf.Make(s, "b")
	want(t, "P17.1: the last book", e, api.OK)
	s, m, e := shelf.Note(s, n, "n")
	want(t, "P17.1: the last note", e, api.OK)
	if n != 65535 || m != 65535 || s.NextBook != 65536 || s.NextNote != 65536 || !shelf.May(s) {
		t.Errorf("P17.1: the last numbers: %d, %d, %v", n, m, s)
	}
}

func TestP17_1Lists(t *testing.T) {
	s := shelf.Empty()
	s, a, _ := shelf.Make(s, "b")
	s, b, _ := shelf.Make(s, "a")
	if a != 1 || b != 2 || !reflect.DeepEqual(shelf.Books(s), []api.Item{{ID: 2, Name: "a"}, {ID: 1, Name: "b"}}) {
		t.Errorf("P17.1: the chapter's example: %d, %d, %v", a, b, shelf.Books(s))
	}
	for _, name := range []string{"Z", "b", "a b", "a", "é", "aa"} {
		s, _, _ = shelf.Note(s, 1, name)
	}
	s, _, _ = shelf.Note(s, 2, "c")
	items, e := shelf.Notes(s, 1)
	want(t, "P17.1: Notes", e, api.OK)
	if !reflect.DeepEqual(items, []api.Item{{ID: 1, Name: "Z"}, {ID: 4, Name: "a"}, {ID: 3, Name: "a b"}, {ID: 6, Name: "aa"}, {ID: 2, Name: "b"}, {ID: 5, Name: "é"}}) {
		t.Errorf("P17.1: Notes: %v", items)
	}
	s, _, _ = shelf.Make(s, "empty")
	items, e = shelf.Notes(s, 3)
	want(t, "P17.1: Notes of an empty book", e, api.OK)
	if len(items) != 0 {
		t.Errorf("P17.1: Notes of an empty book: %v", items)
	}
	for _, book := range []int{0, 4, -1} {
		items, e = shelf.Notes(s, book)
		want(t, "P17.1: Notes of no book", e, api.ErrNone)
		if len(items) != 0 {
			t.Errorf("R2: Notes of no book: %v", items)
		}
	}
	if len(shelf.Books(shelf.Empty())) != 0 {
		t.Error("P17.1: Books of none")
	}
}

func TestP17_1Find(t *testing.T) {
	s := sample()
	n, ok := shelf.Find(s, 1)
	if !ok || !reflect.DeepEqual(n, sample().Notes[0]) {
		t.Errorf("P17.1: Find: %v, %v", n, ok)
	}
	n.Tags[0], n.Sheets[0] = "spoilt", -1
	if !same(s, sample()) {
		t.Error("R4: Find shares memory")
	}
	for _, id := range []int{0, 2, 10, -1} {
		if n, ok := shelf.Find(s, id); ok || !reflect.DeepEqual(n, api.Note{}) {
			t.Errorf("P17.1: Find(%d): %v, %v", id, n, ok)
		}
	}
}
