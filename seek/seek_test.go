package seek_test

import (
	"slices"
	"strings"
	"testing"

	"jotter/api"
	"jotter/seek"
	"jotter/shelf"
)

func want(t *testing.T, what string, got api.Errno, want api.Errno) {
	t.Helper()
	if got != want {
		t.Errorf("%s: %d, not %d", what, got, want)
	}
}

// sample has notes whose names' order is not that of their numbers.
func sample() api.Shelf {
	return api.Shelf{
		NextBook: 9, NextNote: 20, NextSheet: 1,
		Books: []api.Book{{ID: 1, Name: "work"}, {ID: 3, Name: "home"}, {ID: 8, Name: "my trips"}},
		Notes: []api.Note{
			{ID: 2, Book: 1, Name: "to do", Tags: []string{"blue", "red", "urgent"}},
			{ID: 3, Book: 3, Name: "to do", Tags: []string{"red"}},
			{ID: 5, Book: 1, Name: "plan of the day", Tags: []string{"blue", "red"}},
			{ID: 7, Book: 3, Name: "a  day off"},
			{ID: 8, Book: 8, Name: "Day trip", Tags: []string{"#odd", "blue"}},
			{ID: 12, Book: 1, Name: "!bang", Tags: []string{"!x", "a b"}},
		},
	}
}

func wrong() []api.Shelf {
	s := sample()
	s.Notes[0].Book = 2
	r := sample()
	r.NextNote = 12
	return []api.Shelf{{}, s, r}
}

func TestP26_1Words(t *testing.T) {
	for _, x := range []struct {
		name string
		want []string
	}{
		{"to be or not to be", []string{"be", "not", "or", "to"}}, {"", nil}, {" ", nil}, {"   ", nil}, {"a", []string{"a"}}, {"  b   a  ", []string{"a", "b"}}, {"a a a", []string{"a"}}, {"B a é A", []string{"A", "B", "a", "é"}}, {"x\ty", []string{"x\ty"}}, {"x\u00a0y z", []string{"x\u00a0y", "z"}}, {"\xff \xfe\x00", []string{"\xfe\x00", "\xff"}}, {"ab a abc", []string{"a", "ab", "abc"}},
	} {
		if got := seek.Words(x.name); !slices.Equal(got, x.want) {
			t.Errorf("P26.1: Words(%q): %q, not %q", x.name, got, x.want)
		}
	}
}

func TestP26_1May(t *testing.T) {
	for _, q := range []string{"", "a", "a b c", "#a", "/a", "!a", "!#a", "!/a", "#!a", "/!a", "##", "//", "#/", "/#", "a!", "a!!b", "a#", "a/b", "!#!", "#a !/b c", "\xff", "\t", strings.Repeat("x", 200), strings.Repeat("a ", 99) + "bc"} {
		if !seek.May(q) {
			t.Errorf("P26.1: May(%q) is false", q)
		}
	}
	for _, q := range []string{" ", "  ", " a", "a ", "a  b", "!", "#", "/", "!#", "!/", "!!", "!!a", "!!#a", "a !", "a # b", "a / b", "a ! b", "! a", "# a", "#  a", "!# a", "a !!b", "a  ", strings.Repeat("x", 201), strings.Repeat("a ", 100) + "b"} {
		if seek.May(q) {
			t.Errorf("P26.1: May(%q) is true", q)
		}
		items, e := seek.Find(sample(), q)
		want(t, "P26.1: Find of no question", e, api.ErrForm)
		if len(items) != 0 {
			t.Errorf("R2: Find(%q): %v", q, items)
		}
	}
}

func ids(items []api.Item) []int {
	var list []int
	for _, x := range items {
		list = append(list, x.ID)
	}
	return list
}

func TestP26_1Find(t *testing.T) {
	s := sample()
	for _, x := range []struct {
		q    string
		want []int
	}{
		{"", []int{12, 8, 7, 5, 2, 3}}, {"to", []int{2, 3}}, {"d", []int{7, 5, 2, 3}}, {"day", []int{7, 5}}, {"D", []int{8}}, {"o", []int{7, 5}}, {"off of", []int{7}}, {"of", []int{7, 5}}, {"ay", nil}, {"to do", []int{2, 3}}, {"days", nil}, {"day off", []int{7}}, {"off day", []int{7}},
		{"#red", []int{5, 2, 3}}, {"#re", nil}, {"#red #blue", []int{5, 2}}, {"#red !#blue", []int{3}}, {"!#red", []int{12, 8, 7}}, {"##odd", []int{8}}, {"#!x", []int{12}}, {"!#!x", []int{8, 7, 5, 2, 3}}, {"#a", nil}, {"#a b", nil},
		{"/home", []int{7, 3}}, {"/hom", nil}, {"/work", []int{12, 5, 2}}, {"!/work", []int{8, 7, 3}}, {"/my", nil}, {"/work #red", []int{5, 2}}, {"/work #red !plan", []int{2}}, {"!to !/work", []int{8, 7}}, {"/work /home", nil}, {"!bang", []int{12, 8, 7, 5, 2, 3}}, {"b", nil}, {"!a", []int{12, 8, 5, 2, 3}}, {"t t t", []int{8, 5, 2, 3}}, {"p t", []int{5}},
	} {
		items, e := seek.Find(s, x.q)
		want(t, "P26.1: Find", e, api.OK)
		if !slices.Equal(ids(items), x.want) {
			t.Errorf("P26.1: Find(%q): %v, not %v", x.q, items, x.want)
		}
		for _, item := range items {
			if n, ok := shelf.Find(s, item.ID); !ok || n.Name != item.Name {
				t.Errorf("P26.1: Find(%q): %v", x.q, item)
			}
		}
	}
	for _, s := range wrong() {
		for _, q := range []string{"", "a", "!!", " "} {
			items, e := seek.Find(s, q)
			want(t, "P26.1: Find of a shelf that may not be", e, api.ErrArg)
			if len(items) != 0 {
				t.Errorf("R2: Find: %v", items)
			}
		}
	}
	if items, e := seek.Find(shelf.Empty(), ""); len(items) != 0 || e != api.OK {
		t.Errorf("P26.1: Find of an empty shelf: %v, %d", items, e)
	}
}

func TestP26_2Tags(t *testing.T) {
	want := []api.Item{{ID: 1, Name: "!x"}, {ID: 1, Name: "#odd"}, {ID: 1, Name: "a b"}, {ID: 3, Name: "blue"}, {ID: 3, Name: "red"}, {ID: 1, Name: "urgent"}}
	if got := seek.Tags(sample()); !slices.Equal(got, want) {
		t.Errorf("P26.2: Tags: %v, not %v", got, want)
	}
	if got := seek.Tags(shelf.Empty()); len(got) != 0 {
		t.Errorf("P26.2: Tags of an empty shelf: %v", got)
	}
	for _, s := range wrong() {
		if got := seek.Tags(s); len(got) != 0 {
			t.Errorf("P26.2: Tags of a shelf that may not be: %v", got)
		}
	}
}

func TestP26_2Kin(t *testing.T) {
	s := sample()
	for _, x := range []struct {
		note int
		want []api.Item
	}{
		{2, []api.Item{{ID: 5, Name: "plan of the day"}, {ID: 3, Name: "to do"}, {ID: 8, Name: "Day trip"}}}, {3, []api.Item{{ID: 2, Name: "to do"}, {ID: 5, Name: "plan of the day"}}}, {5, []api.Item{{ID: 2, Name: "to do"}, {ID: 3, Name: "to do"}, {ID: 8, Name: "Day trip"}}}, {8, []api.Item{{ID: 2, Name: "to do"}, {ID: 5, Name: "plan of the day"}}}, {7, nil}, {12, nil},
	} {
		got, e := seek.Kin(s, x.note)
		want(t, "P26.2: Kin", e, api.OK)
		if !slices.Equal(got, x.want) {
			t.Errorf("P26.2: Kin(%d): %v, not %v", x.note, got, x.want)
		}
	}
	for _, note := range []int{0, 1, 4, 20, -1, 1 << 62} {
		got, e := seek.Kin(s, note)
		want(t, "P26.2: Kin of no note", e, api.ErrNone)
		if len(got) != 0 {
			t.Errorf("R2: Kin(%d): %v", note, got)
		}
	}
	for _, s := range wrong() {
		for _, note := range []int{2, 99} {
			got, e := seek.Kin(s, note)
			want(t, "P26.2: Kin of a shelf that may not be", e, api.ErrArg)
			if len(got) != 0 {
				t.Errorf("R2: Kin: %v", got)
			}
		}
	}
	// Three in common are ahead of two, wherever they stand.
	s.Notes[5].Tags = []string{"blue", "red", "urgent"}
	got, _ := seek.Kin(s, 2)
	if !slices.Equal(ids(got), []int{12, 5, 3, 8}) {
		t.Errorf("P26.2: Kin: %v", got)
	}
}
