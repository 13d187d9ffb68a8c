package shelf

import (
	"jotter/api"
	"jotter/name"
	"jotter/pile"
)

// May tells whether s may be a shelf.
func May(s api.Shelf) bool {
	return within(s.NextBook, 1, lastNumber) &&
		within(s.NextNote, 1, lastNumber) &&
		within(s.NextSheet, 1, api.MaxObject+1) &&
		mayBooks(s) && mayNotes(s) && maySheets(s)
}

func within(x int, least int, greatest int) bool {
	return x >= least && x <= greatest
}

func mayBooks(s api.Shelf) bool {
	if len(s.Books) > api.MaxBooks {
		return false
	}
	before := 0
	for _, b := range s.Books {
		if !within(b.ID, before+1, s.NextBook-1) || !name.May(b.Name) || bookTaken(s, b.Name, b.ID) {
			return false
		}
		before = b.ID
	}
	return true
}

func mayNotes(s api.Shelf) bool {
	if len(s.Notes) > api.MaxNotes {
		return false
	}
	before := 0
	for _, n := range s.Notes {
		if !within(n.ID, before+1, s.NextNote-1) || !mayNote(s, n) {
			return false
		}
		before = n.ID
	}
	return true
}

func mayNote(s api.Shelf, n api.Note) bool {
	return name.May(n.Name) && pile.Book(s, n.Book) >= 0 && !noteTaken(s, n.Book, n.Name, n.ID) && mayTags(n.Tags)
}

func mayTags(tags []string) bool {
	if len(tags) > api.MaxTags {
		return false
	}
	for i, tag := range tags {
		if !name.May(tag) || i > 0 && !name.Less(tags[i-1], tag) {
			return false
		}
	}
	return true
}

func maySheets(s api.Shelf) bool {
	// There are numbers up to MaxObject alone, so a list by numbers is short.
	taken := make([]bool, s.NextSheet)
	for _, n := range s.Notes {
		if len(n.Sheets) > api.MaxSheets {
			return false
		}
		for _, sheet := range n.Sheets {
			if !within(sheet, 1, s.NextSheet-1) || taken[sheet] {
				return false
			}
			taken[sheet] = true
		}
	}
	return true
}
