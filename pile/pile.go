// Package pile copies shelves and sheets, and finds books and notes by their numbers.
package pile

import (
	"slices"

	"jotter/api"
)

// Clone is the same shelf in memory of its own.
func Clone(s api.Shelf) api.Shelf {
	s.Books = slices.Clone(s.Books)
	s.Notes = slices.Clone(s.Notes)
	for i := range s.Notes {
		s.Notes[i] = CloneNote(s.Notes[i])
	}
	return s
}

// CloneNote is the same note in memory of its own.
func CloneNote(n api.Note) api.Note {
	n.Tags = slices.Clone(n.Tags)
	n.Sheets = slices.Clone(n.Sheets)
	return n
}

// CloneSheet is the same sheet in memory of its own.
func CloneSheet(s api.Sheet) api.Sheet {
	s = slices.Clone(s)
	for i := range s {
		s[i].Points = slices.Clone(s[i].Points)
	}
	return s
}

// Book is where on the shelf the book stands, -1 of none.
func Book(s api.Shelf, id int) int {
	return slices.IndexFunc(s.Books, func(b api.Book) bool { return b.ID == id })
}

// Note is where on the shelf the note stands, -1 of none.
func Note(s api.Shelf, id int) int {
	return slices.IndexFunc(s.Notes, func(n api.Note) bool { return n.ID == id })
}
