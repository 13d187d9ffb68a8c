package store

import (
	"bytes"

	"jotter/api"
	"jotter/big"
	"jotter/extent"
)

const (
	firstIndex  = 0 // the page on which the index begins
	countBytes  = 2 // ahead of all objects in the index
	objectBytes = 4 // an object's number and size there
	numberBytes = 2
	linkBytes   = 2 // ahead of each index page: which is the next one, 0 behind the last one
)

// write lays what changed on pages, and trims those that are no more needed.
func (s *Store) write() api.Errno {
	index := s.assign()
	for _, id := range s.IDs() {
		o := s.objects[id]
		if !o.changed {
			continue
		}
		for i, part := range extent.Cut(s.g, o.data) {
			if e := s.f.Write(o.pages[i], part); e != api.OK {
				return e
			}
		}
	}
	if e := s.writeIndex(index); e != api.OK {
		return e
	}
	return s.trim(index)
}

// assign gives each object and the index their pages; it tells those of the index.
func (s *Store) assign() []int {
	for _, o := range s.objects {
		n := extent.Pages(s.g, len(o.data))
		o.pages = o.pages[:min(n, len(o.pages))]
	}
	free := s.free()
	take := func(pages []int, n int) []int {
		more := n - len(pages)
		pages = append(pages, free[:more]...)
		free = free[more:]
		return pages
	}
	for _, id := range s.IDs() {
		o := s.objects[id]
		o.pages = take(o.pages, extent.Pages(s.g, len(o.data)))
	}
	return take([]int{firstIndex}, extent.Index(s.g, s.sizes()))
}

// taken is which pages the objects have, and these.
func (s *Store) taken(pages []int) []bool {
	taken := make([]bool, s.f.Logical())
	for _, page := range pages {
		taken[page] = true
	}
	for _, o := range s.objects {
		for _, page := range o.pages {
			taken[page] = true
		}
	}
	return taken
}

// free is the pages that no object has, but for the first one.
func (s *Store) free() []int {
	var free []int
	for page, is := range s.taken([]int{firstIndex}) {
		if !is {
			free = append(free, page)
		}
	}
	return free
}

func (s *Store) trim(index []int) api.Errno {
	taken := s.taken(index)
	for _, page := range s.f.Pages() {
		if taken[page] {
			continue
		}
		if e := s.f.Trim(page); e != api.OK {
			return e
		}
	}
	return api.OK
}

// layIndex is the index: how many objects; of each its number, its size, its pages.
func (s *Store) layIndex() []byte {
	b := big.Append(nil, len(s.objects), countBytes)
	for _, id := range s.IDs() {
		o := s.objects[id]
		b = big.Append(b, id, numberBytes)
		b = big.Append(b, len(o.data), numberBytes)
		for _, page := range o.pages {
			b = big.Append(b, page, numberBytes)
		}
	}
	return b
}

func (s *Store) writeIndex(pages []int) api.Errno {
	rest := s.layIndex()
	for i, page := range pages {
		next := firstIndex
		if i+1 < len(pages) {
			next = pages[i+1]
		}
		b := make([]byte, linkBytes, s.g.Bytes)
		copy(b, big.Append(nil, next, linkBytes))
		n := min(len(rest), s.g.Bytes-linkBytes)
		b = append(b, rest[:n]...)
		rest = rest[n:]
		if e := s.f.Write(page, b[:s.g.Bytes]); e != api.OK {
			return e
		}
	}
	return api.OK
}

// load reads the index, and all objects.
func (s *Store) load() api.Errno {
	_, e := s.f.Read(firstIndex)
	if e == api.ErrNone && len(s.f.Pages()) == 0 {
		return api.OK
	}
	index, taken, e := s.readIndex()
	if e != api.OK {
		return e
	}
	if len(index) < countBytes {
		return api.ErrForm
	}
	count, rest := big.Number(index[:countBytes]), index[countBytes:]
	before := -1
	for range count {
		var id int
		if id, rest, e = s.readObject(rest, taken); e != api.OK {
			return e
		}
		if id <= before || id > api.MaxObject {
			return api.ErrForm
		}
		before = id
	}
	return api.OK
}

// readIndex is the index's bytes, and which pages it has.
func (s *Store) readIndex() ([]byte, []bool, api.Errno) {
	var index []byte
	taken := make([]bool, s.f.Logical())
	page := firstIndex
	for page < len(taken) && !taken[page] {
		taken[page] = true
		b, e := s.read(page)
		if e != api.OK {
			return nil, nil, e
		}
		index = append(index, b[linkBytes:]...)
		page = big.Number(b[:linkBytes])
		if page == firstIndex {
			return index, taken, api.OK
		}
	}
	return nil, nil, api.ErrForm
}

// read is a page that must be there.
func (s *Store) read(page int) ([]byte, api.Errno) {
	b, e := s.f.Read(page)
	if e == api.ErrNone || e == api.ErrArg {
		e = api.ErrForm
	}
	return b, e
}

// readObject takes an object, and tells its number and what stands behind it in the index.
func (s *Store) readObject(index []byte, taken []bool) (int, []byte, api.Errno) {
	if len(index) < objectBytes {
		return 0, nil, api.ErrForm
	}
	id := big.Number(index[:numberBytes])
	size := big.Number(index[numberBytes:objectBytes])
	index = index[objectBytes:]
	o := &object{}
	var parts [][]byte
	for range extent.Pages(s.g, size) {
		if len(index) < numberBytes {
			return 0, nil, api.ErrForm
		}
		page := big.Number(index[:numberBytes])
		index = index[numberBytes:]
		if page >= len(taken) || taken[page] {
			return 0, nil, api.ErrForm
		}
		taken[page] = true
		b, e := s.read(page)
		if e != api.OK {
			return 0, nil, e
		}
		parts = append(parts, b)
		o.pages = append(o.pages, page)
	}
	data, ok := extent.Join(parts, size)
	if !ok {
		return 0, nil, api.ErrForm
	}
	o.data = bytes.Clone(data)
	s.objects[id] = o
	return id, index, api.OK
}
