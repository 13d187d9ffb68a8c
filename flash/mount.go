package flash

import (
	"bytes"

	"jotter/api"
	"jotter/chip"
	"jotter/geom"
	"jotter/leaf"
	"jotter/maps"
	"jotter/rank"
)

// Mount finds out what stands on the chip.
func Mount(c *chip.Chip) (*Flash, api.Errno) {
	if c == nil {
		return nil, api.ErrNil
	}
	if !c.On() {
		return nil, api.ErrOff
	}
	found, e := leaf.Scan(c)
	if e != api.OK {
		return nil, e
	}
	f := blank(c)
	f.learn(found)
	if e := f.preferOriginals(found); e != api.OK {
		return nil, e
	}
	if f.overdue() {
		return f, api.OK
	}
	if e := f.even(); e == api.ErrOff {
		return nil, e
	}
	return f, api.OK
}

func blank(c *chip.Chip) *Flash {
	g := c.Geometry()
	f := &Flash{c: c, g: g, cuts: c.Cuts(), kept: maps.New(g), fresh: maps.New(g)}
	logical := geom.Logical(g)
	f.trims = make([]bool, logical)
	f.stale = make([]bool, logical)
	f.waiting = make([]change, logical)
	return f
}

// learn takes in which records count, which never will, and which numbers were given.
func (f *Flash) learn(found []api.Found) {
	for _, x := range found {
		f.seq = max(f.seq, x.Tag.Seq)
		f.epoch = max(f.epoch, x.Tag.Epoch)
	}
	for _, x := range rank.All(trimsAsData(found)) {
		if f.kept.Put(x.Tag.Page, x.At) {
			f.trims[x.Tag.Page] = true
		}
	}
	for _, x := range rank.All(found) {
		if f.may(x.Tag.Page) {
			f.trims[x.Tag.Page] = false
		}
	}
	for _, x := range rank.Stale(found) {
		if f.may(x.Tag.Page) {
			f.stale[x.Tag.Page] = true
		}
	}
	f.findCommit(found)
}

// trimsAsData lets rank tell where the newest records stand, whether they are data or trims.
func trimsAsData(found []api.Found) []api.Found {
	all := make([]api.Found, 0, len(found))
	for _, x := range found {
		if x.Tag.Kind == api.KindTrim {
			x.Tag.Kind = api.KindData
		}
		all = append(all, x)
	}
	return all
}

func (f *Flash) findCommit(found []api.Found) {
	last := rank.Last(found)
	for _, x := range found {
		if x.Tag.Kind == api.KindCommit && x.Tag.Epoch == last {
			f.commit, f.sealed = x.At, true
		}
	}
}

// preferOriginals lets, of several records that say the same, the oldest one
// count. So behind a cut in the midst of a clearing the block that was being
// filled holds nothing that is needed, and can be erased without a move:
// however often the power goes, there is room to begin the clearing anew.
func (f *Flash) preferOriginals(found []api.Found) api.Errno {
	for _, x := range found {
		if !f.counts(x.At) {
			continue
		}
		at, e := f.original(found, x)
		if e != api.OK {
			return e
		}
		if at != x.At {
			f.moved(x.At, at)
		}
	}
	return api.OK
}

// original is where the oldest record that says what x says stands in a good block.
func (f *Flash) original(found []api.Found, x api.Found) (api.Place, api.Errno) {
	best := x
	for _, y := range found {
		if !f.good(y.At.Block) || !alike(x.Tag, y.Tag) || x.At == y.At {
			continue
		}
		if f.good(best.At.Block) && y.Tag.Seq >= best.Tag.Seq {
			continue
		}
		same, e := f.same(x.At, y.At)
		if e != api.OK {
			return api.Place{}, e
		}
		if same {
			best = y
		}
	}
	return best.At, api.OK
}

// alike tells whether one of two records may be a copy of the other.
func alike(a api.Tag, b api.Tag) bool {
	return a.Kind == b.Kind && a.Page == b.Page && a.Epoch == b.Epoch
}

func (f *Flash) same(a api.Place, b api.Place) (bool, api.Errno) {
	first, _, e := leaf.Load(f.c, a)
	if e != api.OK {
		return false, e
	}
	second, _, e := leaf.Load(f.c, b)
	if e != api.OK {
		return false, e
	}
	return bytes.Equal(first, second), api.OK
}
