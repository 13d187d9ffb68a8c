package pile_test

import (
	"testing"

	"jotter/api"
	"jotter/pile"
)

func TestClone(t *testing.T) {
	s := api.Shelf{NextBook: 2, NextNote: 9, NextSheet: 3, Books: []api.Book{{ID: 1, Name: "b"}}, Notes: []api.Note{{ID: 7, Book: 1, Name: "n", Tags: []string{"t"}, Sheets: []int{2}}}}
	c := pile.Clone(s)
	c.Books[0].Name, c.Notes[0].Name, c.Notes[0].Tags[0], c.Notes[0].Sheets[0] = "x", "x", "x", 9
	if s.Books[0].Name != "b" || s.Notes[0].Name != "n" || s.Notes[0].Tags[0] != "t" || s.Notes[0].Sheets[0] != 2 || c.NextNote != 9 {
		t.Errorf("Clone shares memory: %v", s)
	}
	if pile.Book(s, 1) != 0 || pile.Book(s, 7) != -1 || pile.Note(s, 7) != 0 || pile.Note(s, 1) != -1 {
		t.Error("Book, Note")
	}
	sheet := api.Sheet{{Pen: 1, Width: 2, Points: []complex128{3}}}
	copied := pile.CloneSheet(sheet)
	copied[0].Points[0] = 4
	copied[0].Pen = 5
	if sheet[0].Points[0] != 3 || sheet[0].Pen != 1 {
		t.Errorf("CloneSheet shares memory: %v", sheet)
	}
}
