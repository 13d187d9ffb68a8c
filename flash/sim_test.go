package flash_test

import (
	"bytes"
	"math/rand"
	"slices"
	"testing"

	"jotter/api"
	"jotter/chip"
	"jotter/flash"
	"jotter/geom"
	"jotter/leaf"
	"jotter/rank"
	"jotter/wear"
)

// pages is what a flash holds, by logical pages.
type pages map[int]byte

func (p pages) copy() pages {
	q := pages{}
	for k, v := range p {
		q[k] = v
	}
	return q
}

func same(a pages, b pages) bool {
	if len(a) != len(b) {
		return false
	}
	for k, v := range a {
		if w, ok := b[k]; !ok || v != w {
			return false
		}
	}
	return true
}

func block(g api.Geometry, x byte) []byte { return bytes.Repeat([]byte{x}, g.Bytes) }

// sim drives a flash and knows what it must hold.
type sim struct {
	t     *testing.T
	g     api.Geometry
	fs    []api.Fault
	c     *chip.Chip
	f     *flash.Flash
	kept  pages // of the last Flush that was OK
	now   pages // with what was written since
	maybe pages // of a Flush that was not OK
}

func newSim(t *testing.T, g api.Geometry, fs ...api.Fault) *sim {
	t.Helper()
	s := &sim{t: t, g: g, fs: fs, c: chip.New(g, fs...), kept: pages{}, now: pages{}}
	if s.c == nil {
		t.Fatalf("no chip of %v, %v", g, fs)
	}
	s.mount()
	return s
}

// call counts the operations of one call.
func (s *sim) call(what string, do func() api.Errno) api.Errno {
	s.t.Helper()
	first := s.c.Ops()
	e := do()
	if n := s.c.Ops() - first; n > geom.Bound(s.g) {
		s.t.Fatalf("P14.4: %s: %d operations, more than %d", what, n, geom.Bound(s.g))
	}
	if (e == api.ErrDegraded || e == api.ErrReadOnly) && len(s.fs) <= s.g.Spares {
		s.t.Fatalf("P14.4: %s: %d with %d faults", what, e, len(s.fs))
	}
	if (e == api.ErrOff) != !s.c.On() {
		s.t.Fatalf("P14.2: %s: %d with power %v", what, e, s.c.On())
	}
	return e
}

func (s *sim) mount() api.Errno {
	s.t.Helper()
	return s.call("Mount", func() api.Errno {
		f, e := flash.Mount(s.c)
		if e == api.OK {
			s.f = f
			s.wantWear("Mount")
		}
		return e
	})
}

// onChip is what rank and leaf tell of the chip.
func (s *sim) onChip() pages {
	s.t.Helper()
	found, e := leaf.Scan(s.c)
	if e != api.OK {
		s.t.Fatalf("Scan: %d", e)
	}
	seqs := map[int]int{}
	for _, x := range found {
		seqs[x.Tag.Seq]++
		if seqs[x.Tag.Seq] > 1 {
			s.t.Fatalf("P14.3: two pages have number %d", x.Tag.Seq)
		}
	}
	p := pages{}
	for _, x := range rank.All(found) {
		b, _, e := leaf.Load(s.c, x.At)
		if e != api.OK || !bytes.Equal(b, block(s.g, b[0])) {
			s.t.Fatalf("Load: %v, %d", b, e)
		}
		p[x.Tag.Page] = b[0]
	}
	return p
}

// wantKept looks at the chip: the last flush, or the one that was under way.
func (s *sim) wantKept(what string) {
	s.t.Helper()
	got := s.onChip()
	if !same(got, s.kept) && (s.maybe == nil || !same(got, s.maybe)) {
		s.t.Fatalf("P14.3: %s: %v on the chip, not %v, nor %v", what, got, s.kept, s.maybe)
	}
}

func (s *sim) wantWear(what string) {
	s.t.Helper()
	if s.f.Degraded() {
		return
	}
	ws, good := make([]int, s.g.Blocks), make([]bool, s.g.Blocks)
	for b := range ws {
		ws[b], good[b] = s.c.Wear(b), !s.c.Bad(b) && !s.c.Failed(b)
	}
	limit := s.g.Trigger + geom.Slack(s.g) + s.c.Cuts()
	if n := wear.Spread(ws, good); n > limit {
		s.t.Fatalf("P14.4: behind %s: wear differs by %d, more than %d: %v, %v", what, n, limit, ws, good)
	}
}

// wantPages asks the flash for everything.
func (s *sim) wantPages(what string) {
	s.t.Helper()
	got := s.f.Pages()
	want := []int{}
	for page := range s.now {
		want = append(want, page)
	}
	slices.Sort(want)
	if !slices.Equal(got, want) {
		s.t.Fatalf("P14.2: %s: Pages: %v, not %v", what, got, want)
	}
	for page := range geom.Logical(s.g) {
		b, e := s.f.Read(page)
		x, ok := s.now[page]
		if ok && (e != api.OK || !bytes.Equal(b, block(s.g, x))) || !ok && (e != api.ErrNone || len(b) != 0) {
			s.t.Fatalf("P14.2: %s: Read(%d): %v, %d, not %d, %v", what, page, b, e, x, ok)
		}
	}
}

func (s *sim) write(page int, x byte) api.Errno {
	s.t.Helper()
	e := s.call("Write", func() api.Errno { return s.f.Write(page, block(s.g, x)) })
	if e == api.OK {
		s.now[page] = x
	}
	return e
}

func (s *sim) trim(page int) api.Errno {
	s.t.Helper()
	e := s.call("Trim", func() api.Errno { return s.f.Trim(page) })
	_, ok := s.now[page]
	if e == api.OK {
		delete(s.now, page)
	}
	if (e == api.OK || e == api.ErrNone) && ok != (e == api.OK) {
		s.t.Fatalf("P14.2: Trim(%d): %d", page, e)
	}
	return e
}

func (s *sim) flush() api.Errno {
	s.t.Helper()
	e := s.call("Flush", s.f.Flush)
	switch e {
	case api.OK:
		s.kept, s.maybe = s.now.copy(), nil
		s.wantWear("Flush")
	case api.ErrOff, api.ErrDegraded:
		s.maybe = s.now.copy()
	case api.ErrReadOnly:
	default:
		s.t.Fatalf("P14.2: Flush: %d", e)
	}
	return e
}

// boot is for a chip without power: it comes back, perhaps cut again, till a Mount is OK.
func (s *sim) boot(cuts ...api.Cut) {
	s.t.Helper()
	for i := 0; ; i++ {
		if e := s.c.Boot(); e != api.OK {
			s.t.Fatalf("Boot: %d", e)
		}
		s.wantKept("behind a cut")
		if i < len(cuts) {
			s.c.Arm(cuts[i])
		}
		if e := s.mount(); e == api.OK {
			break
		}
	}
	s.c.Arm(api.Cut{Op: 1 << 30})
	s.now = s.onChip()
	s.kept, s.maybe = s.now.copy(), nil
	s.wantPages("behind a Mount")
}

func geometries() []api.Geometry {
	return []api.Geometry{
		{Blocks: 8, Pages: 4, Bytes: 24, Spares: 0, Trigger: 2}, {Blocks: 8, Pages: 4, Bytes: 24, Spares: 2, Trigger: 3}, {Blocks: 10, Pages: 4, Bytes: 24, Spares: 4, Trigger: 2}, {Blocks: 20, Pages: 8, Bytes: 24, Spares: 0, Trigger: 2}, {Blocks: 20, Pages: 8, Bytes: 24, Spares: 4, Trigger: 20}, {Blocks: 9, Pages: 5, Bytes: 24, Spares: 1, Trigger: 5},
		{Blocks: 8, Pages: 7, Bytes: 24, Spares: 3, Trigger: 2}, {Blocks: 8, Pages: 8, Bytes: 24, Spares: 0, Trigger: 4},
	}
}

func randomFaults(r *rand.Rand, g api.Geometry, many int, within int) []api.Fault {
	fs := []api.Fault{}
	for _, b := range r.Perm(g.Blocks)[:min(many, api.MaxFaults)] {
		f := api.Fault{Block: b, After: r.Intn(within + 1)}
		if r.Intn(4) == 0 {
			f = api.Fault{Block: b, Factory: true}
		}
		fs = append(fs, f)
	}
	return fs
}

// spend fills the flash at random, and flushes it, with cuts and without.
func (s *sim) spend(r *rand.Rand, rounds int, cutting int, within int) {
	s.t.Helper()
	logical := geom.Logical(s.g)
	hot := 1 + r.Intn(logical)
	for range rounds {
		for range r.Intn(2 * logical) {
			page := r.Intn(hot)
			if r.Intn(10) == 0 {
				page = r.Intn(logical)
			}
			if r.Intn(5) == 0 {
				s.trim(page)
			} else {
				s.write(page, byte(r.Intn(250)))
			}
		}
		if cutting > 0 && r.Intn(cutting) == 0 {
			s.c.Arm(randomCut(r, within))
		}
		if s.flush() == api.ErrOff {
			cuts := []api.Cut{}
			for range r.Intn(3) {
				cuts = append(cuts, randomCut(r, 200))
			}
			s.boot(cuts...)
			continue
		}
		s.c.Arm(api.Cut{Op: 1 << 30})
		s.wantKept("behind a Flush")
		s.wantPages("behind a Flush")
	}
}

func randomCut(r *rand.Rand, within int) api.Cut {
	return api.Cut{Op: 1 + r.Intn(within), Bytes: r.Intn(60), Fill: byte(r.Intn(2) * 255)}
}
