package flash

import (
	"jotter/api"
	"jotter/leaf"
	"jotter/maps"
	"jotter/tag"
)

// changed is which pages the next flush writes: those that wait, and those of
// which a record of an epoch that was cut off may stand on the chip: the next
// commit would let that count, were there no newer one.
func (f *Flash) changed() []int {
	var pages []int
	waits := false
	for page := range f.waiting {
		waits = waits || f.waiting[page].kind != 0
		if f.waiting[page].kind != 0 || f.stale[page] {
			pages = append(pages, page)
		}
	}
	if !waits {
		return nil
	}
	return pages
}

// flush writes these pages, and the commit behind them.
func (f *Flash) flush(pages []int) api.Errno {
	f.epoch++
	f.fresh = maps.New(f.g)
	if e := f.restore(); e != api.OK {
		return e
	}
	for _, page := range pages {
		f.stale[page] = true
		if e := f.writePage(page); e != api.OK {
			return e
		}
	}
	at, e := f.write(api.Tag{Kind: api.KindCommit, Epoch: f.epoch}, make([]byte, f.g.Bytes))
	if e != api.OK {
		return e
	}
	f.settle(pages, at)
	if e := f.rescue(); e != api.OK {
		return e
	}
	return f.even()
}

// writePage writes the page's record of this epoch.
func (f *Flash) writePage(page int) api.Errno {
	t := api.Tag{Kind: api.KindTrim, Page: page, Epoch: f.epoch}
	data := make([]byte, f.g.Bytes)
	if f.has(page) {
		var e api.Errno
		t.Kind = api.KindData
		if data, e = f.current(page); e != api.OK {
			return e
		}
	}
	at, e := f.write(t, data)
	if e != api.OK {
		return e
	}
	f.fresh.Put(page, at)
	return api.OK
}

// settle takes in that the commit stands at that place, so that these pages count.
func (f *Flash) settle(pages []int, commit api.Place) {
	for _, page := range pages {
		trimmed := !f.has(page)
		at, _ := f.fresh.At(page)
		f.kept.Put(page, at)
		f.trims[page] = trimmed
		f.waiting[page] = change{}
		f.stale[page] = false
	}
	f.fresh = maps.New(f.g)
	f.commit, f.sealed = commit, true
}

// write puts a record on a page of its own, wherever there is room.
func (f *Flash) write(t api.Tag, data []byte) (api.Place, api.Errno) {
again:
	b, e := f.open()
	if e != api.OK {
		return api.Place{}, e
	}
	at, e := f.program(b, t, data)
	if e == api.ErrFail {
		goto again
	}
	return at, e
}

// program puts a record, with a number of its own, on the block's next page.
func (f *Flash) program(b int, t api.Tag, data []byte) (api.Place, api.Errno) {
	f.seq++
	t.Seq = f.seq
	raw, e := tag.Lay(data, t)
	if e != api.OK {
		return api.Place{}, e
	}
	at := api.Place{Block: b, Page: f.c.Used(b)}
	if e := f.c.Program(at, raw); e != api.OK {
		return api.Place{}, e
	}
	return at, f.watch()
}

// move copies a record to the block's next page; that one counts from then on.
func (f *Flash) move(p api.Place, b int) api.Errno {
	data, t, e := leaf.Load(f.c, p)
	if e != api.OK {
		return e
	}
	at, e := f.program(b, t, data)
	if e == api.OK {
		f.moved(p, at)
	}
	return e
}

// moved takes in that the record of place p stands at another one now.
func (f *Flash) moved(p api.Place, at api.Place) {
	if page, ok := f.kept.Who(p); ok {
		f.kept.Put(page, at)
	} else if page, ok := f.fresh.Who(p); ok {
		f.fresh.Put(page, at)
	} else if f.sealed && f.commit == p {
		f.commit = at
	}
}

// rescue moves what counts out of blocks that failed.
func (f *Flash) rescue() api.Errno {
next:
	p, ok := f.stranded()
	if !ok {
		return api.OK
	}
	b, e := f.open()
	if e == api.OK {
		e = f.move(p, b)
	}
	if e != api.OK && e != api.ErrFail {
		return e
	}
	goto next
}

// stranded is the first record that counts in a block that failed.
func (f *Flash) stranded() (api.Place, bool) {
	for b := range f.g.Blocks {
		if f.good(b) {
			continue
		}
		for i := range f.g.Pages {
			if p := (api.Place{Block: b, Page: i}); f.counts(p) {
				return p, true
			}
		}
	}
	return api.Place{}, false
}
