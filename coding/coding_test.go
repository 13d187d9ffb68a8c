package coding_test

import (
	"bytes"
	"reflect"
	"strings"
	"testing"

	"jotter/api"
	"jotter/coding"
	"jotter/shelf"
)

func same(a, b api.Shelf) bool { return reflect.DeepEqual(plain(a), plain(b)) }

// plain makes all empty lists alike.
func plain(s api.Shelf) api.Shelf {
	books := append([]api.Book{}, s.Books...)
	notes := []api.Note{}
	for _, n := range s.Notes {
		n.Tags = append([]string{}, n.Tags...)
		n.Sheets = append([]int{}, n.Sheets...)
		notes = append(notes, n)
	}
	s.Books, s.Notes = books, notes
	return s
}

func sample() api.Shelf {
	return api.Shelf{
		NextBook: 65536, NextNote: 258, NextSheet: 4096,
		Books: []api.Book{{ID: 2, Name: "é"}, {ID: 65535, Name: "b"}},
		Notes: []api.Note{
			{ID: 1, Book: 65535, Name: "ab", Tags: []string{"t", "uv"}, Sheets: []int{4095, 258}},
			{ID: 257, Book: 2, Name: "c"},
		},
	}
}

func sampleBytes() []byte {
	return []byte{
		1, 0, 0, 0, 1, 2, 0, 16, 0, 2,
		0, 0, 2, 2, 0xc3, 0xa9, 0, 255, 255, 1, 'b',
		2,
		0, 0, 1, 0, 255, 255, 2, 'a', 'b', 2, 1, 't', 2, 'u', 'v', 2, 15, 255, 1, 2,
		0, 1, 1, 0, 0, 2, 1, 'c', 0, 0,
	}
}

// full is as much as a shelf can hold.
func full() api.Shelf {
	s := api.Shelf{NextBook: 1 << 16, NextNote: 1 << 16, NextSheet: 4096}
	for i := range 6 {
		s.Books = append(s.Books, api.Book{ID: 100*i + 1, Name: strings.Repeat(string(rune('a'+i)), 20)})
	}
	for i := range 12 {
		n := api.Note{ID: 7*i + 1, Book: 100*(i%6) + 1, Name: strings.Repeat(string(rune('a'+i)), 20)}
		for j := range 4 {
			n.Tags = append(n.Tags, strings.Repeat(string(rune('a'+j)), 20))
		}
		for j := range 8 {
			n.Sheets = append(n.Sheets, 4095-8*i-j)
		}
		s.Notes = append(s.Notes, n)
	}
	return s
}

func TestP19_1Bytes(t *testing.T) {
	for _, x := range []struct {
		s    api.Shelf
		want []byte
	}{{shelf.Empty(), []byte{0, 0, 1, 0, 0, 1, 0, 0, 1, 0, 0}}, {sample(), sampleBytes()}} {
		b, e := coding.Lay(x.s)
		if e != api.OK || !bytes.Equal(b, x.want) || coding.Size(x.s) != len(x.want) {
			t.Errorf("P19.1: Lay(%v): %v, %d; Size %d", x.s, b, e, coding.Size(x.s))
		}
		s, e := coding.Read(x.want)
		if e != api.OK || !same(s, x.s) {
			t.Errorf("P19.1: Read(%v): %v, %d", x.want, s, e)
		}
	}
}

func TestP19_1ThereAndBack(t *testing.T) {
	for _, s := range []api.Shelf{shelf.Empty(), sample(), full(), {NextBook: 1 << 16, NextNote: 1, NextSheet: 2}} {
		b, e := coding.Lay(s)
		if e != api.OK || coding.Size(s) != len(b) {
			t.Fatalf("P19.1: Lay: %d; Size %d of %d", e, coding.Size(s), len(b))
		}
		r, e := coding.Read(b)
		if e != api.OK || !same(r, s) {
			t.Errorf("P19.1: Read of Lay: %v, %d", r, e)
		}
		for n := range b {
			if r, e := coding.Read(b[:n]); e != api.ErrForm || !same(r, api.Shelf{}) {
				t.Errorf("P19.1: Read of %d of %d bytes: %v, %d", n, len(b), r, e)
			}
		}
		if r, e := coding.Read(append(bytes.Clone(b), 0)); e != api.ErrForm || !same(r, api.Shelf{}) {
			t.Errorf("P19.1: Read of a byte too many: %v, %d", r, e)
		}
	}
	if n := coding.Size(full()); n != 10+6*24+1+12*(27+1+4*21+1+16) {
		t.Errorf("P19.1: Size of a full shelf: %d", n)
	}
}

func TestP19_1WrongShelf(t *testing.T) {
	broken := sample()
	broken.Notes[1].Book = 3
	for _, s := range []api.Shelf{{}, broken, {NextBook: 1, NextNote: 1, NextSheet: 4097}, {NextBook: 1, NextNote: 1, NextSheet: 1, Books: []api.Book{{ID: 1, Name: "x"}}}} {
		if b, e := coding.Lay(s); e != api.ErrArg || len(b) != 0 || coding.Size(s) != 0 {
			t.Errorf("P19.1: Lay(%v): %v, %d; Size %d", s, b, e, coding.Size(s))
		}
	}
}

// TestP19_1WrongBytes changes each byte: what is read then is a shelf of just these bytes, or none.
func TestP19_1WrongBytes(t *testing.T) {
	read := 0
	for i := range sampleBytes() {
		for x := range 256 {
			b := sampleBytes()
			b[i] = byte(x)
			s, e := coding.Read(b)
			if e != api.OK {
				if e != api.ErrForm || !same(s, api.Shelf{}) {
					t.Fatalf("P19.1: Read(%v): %v, %d", b, s, e)
				}
				continue
			}
			read++
			if back, e := coding.Lay(s); e != api.OK || !bytes.Equal(back, b) || !shelf.May(s) {
				t.Fatalf("P19.1: Read(%v): %v", b, s)
			}
		}
	}
	if read == 0 || read > len(sampleBytes())*128 {
		t.Errorf("P19.1: %d of the changed bytes were read", read)
	}
	for _, b := range [][]byte{
		nil, {}, {0, 0, 0, 0, 0, 1, 0, 0, 1, 0, 0}, {0, 0, 1, 0, 0, 1, 0, 0, 1, 1, 0}, {0, 0, 1, 0, 0, 1, 0, 0, 1, 0, 1}, {1, 0, 1, 0, 0, 1, 0, 0, 1, 0, 0}, {0, 0, 1, 0, 0, 1, 0, 16, 1, 0, 0}, {255, 255, 255, 255, 255, 255, 255, 255, 255, 255, 255},
		{0, 0, 2, 0, 0, 1, 0, 0, 1, 1, 0, 0, 1, 255, 'a', 0}, bytes.Repeat([]byte{255}, 1000), bytes.Repeat([]byte{1}, 1000),
	} {
		if s, e := coding.Read(b); e != api.ErrForm || !same(s, api.Shelf{}) {
			t.Errorf("P19.1: Read(%v): %v, %d", b, s, e)
		}
	}
}

func TestR4OfRead(t *testing.T) {
	b := sampleBytes()
	s, _ := coding.Read(b)
	for i := range b {
		b[i] = 'x'
	}
	_ = append(s.Notes[0].Sheets, 5)
	_ = append(s.Notes[0].Tags, "x")
	if !same(s, sample()) {
		t.Errorf("R4: Read keeps its bytes: %v", s)
	}
}
