package flash_test

import (
	"bytes"
	"math/rand"
	"slices"
	"testing"

	"jotter/api"
	"jotter/chip"
	"jotter/flash"
	"jotter/geom"
	"jotter/leaf"
	"jotter/tag"
)

// small has 8 logical pages.
var small = api.Geometry{Blocks: 8, Pages: 4, Bytes: 24, Spares: 0, Trigger: 2}

func want(t *testing.T, what string, got api.Errno, want api.Errno) {
	t.Helper()
	if got != want {
		t.Errorf("%s: %d, not %d", what, got, want)
	}
}

func wantRead(t *testing.T, what string, f *flash.Flash, page int, data []byte, wanted api.Errno) {
	t.Helper()
	b, e := f.Read(page)
	if e != wanted || !bytes.Equal(b, data) {
		t.Errorf("%s: Read(%d): %v, %d, not %v, %d", what, page, b, e, data, wanted)
	}
}

func wantList(t *testing.T, what string, got []int, want ...int) {
	t.Helper()
	if !slices.Equal(got, want) {
		t.Errorf("%s: Pages: %v, not %v", what, got, want)
	}
}

func mounted(t *testing.T, c *chip.Chip) *flash.Flash {
	t.Helper()
	f, e := flash.Mount(c)
	if e != api.OK || f == nil {
		t.Fatalf("P14.1: Mount: %d", e)
	}
	return f
}

func TestR3Nil(t *testing.T) {
	var f *flash.Flash
	_, e := f.Read(0)
	want(t, "R3: Read", e, api.ErrNil)
	want(t, "R3: Write", f.Write(0, block(small, 1)), api.ErrNil)
	want(t, "R3: Trim", f.Trim(0), api.ErrNil)
	want(t, "R3: Flush", f.Flush(), api.ErrNil)
	if f.Chip() != nil || f.Logical() != 0 || len(f.Pages()) != 0 || f.Degraded() {
		t.Error("R3: a nil flash tells something")
	}
	f, e = flash.Mount(nil)
	want(t, "R3: Mount(nil)", e, api.ErrNil)
	if f != nil {
		t.Error("R2: Mount(nil) tells a flash")
	}
}

func TestP14_1Mount(t *testing.T) {
	c := chip.New(small)
	f := mounted(t, c)
	if f.Chip() != c || f.Logical() != 8 || len(f.Pages()) != 0 || f.Degraded() {
		t.Error("P14.1: Mount of a new chip")
	}
	want(t, "Arm", c.Arm(api.Cut{Op: 1}), api.OK)
	f, e := flash.Mount(c)
	want(t, "P14.1: the power goes meanwhile", e, api.ErrOff)
	if f != nil {
		t.Error("R2: a Mount that is cut tells a flash")
	}
	_, e = flash.Mount(c)
	want(t, "P14.1: Mount without power", e, api.ErrOff)
	if c.Ops() <= 0 {
		t.Error("P14.1: Mount reads nothing")
	}
}

// put programs a record by hand.
func put(t *testing.T, c *chip.Chip, b int, x byte, tg api.Tag) {
	t.Helper()
	raw, e := tag.Lay(block(c.Geometry(), x), tg)
	if e != api.OK || c.Program(api.Place{Block: b, Page: c.Used(b)}, raw) != api.OK {
		t.Fatalf("by hand: %v", tg)
	}
}

func data(page, epoch, seq int) api.Tag {
	return api.Tag{Kind: api.KindData, Page: page, Epoch: epoch, Seq: seq}
}
func trim(page, epoch, seq int) api.Tag {
	return api.Tag{Kind: api.KindTrim, Page: page, Epoch: epoch, Seq: seq}
}
func commit(epoch, seq int) api.Tag {
	return api.Tag{Kind: api.KindCommit, Epoch: epoch, Seq: seq}
}

// TestP14_1ByHand mounts chips that somebody else wrote: what rank tells counts, and nothing that is stale ever does.
func TestP14_1ByHand(t *testing.T) {
	s := newSim(t, small)
	put(t, s.c, 0, 1, data(3, 1, 1))
	put(t, s.c, 0, 2, data(4, 1, 2))
	put(t, s.c, 0, 3, data(3, 1, 3))
	put(t, s.c, 0, 0, commit(1, 4))
	put(t, s.c, 1, 9, data(3, 2, 5))
	put(t, s.c, 1, 9, data(5, 2, 6))
	put(t, s.c, 1, 9, trim(4, 2, 7))
	put(t, s.c, 2, 6, data(6, 1, 8))
	put(t, s.c, 2, 0, trim(6, 1, 9))
	want(t, "P14.1: Mount", s.mount(), api.OK)
	s.now, s.kept = pages{3: 3, 4: 2}, pages{3: 3, 4: 2}
	s.wantPages("P14.1: by hand")
	s.wantKept("P14.1: by hand")
	for i := range byte(20) {
		s.write(0, i)
		want(t, "P14.1: Flush", s.flush(), api.OK)
		s.wantKept("P14.1: what is stale never counts")
		want(t, "P14.1: Mount", s.mount(), api.OK)
		s.wantPages("P14.1: what is stale never counts")
	}
}

// TestP14_1NoCommit mounts a chip that no commit stands on.
func TestP14_1NoCommit(t *testing.T) {
	s := newSim(t, small)
	put(t, s.c, 0, 1, data(3, 1, 1))
	put(t, s.c, 0, 2, data(4, 7, 2))
	want(t, "P14.1: Mount", s.mount(), api.OK)
	s.wantPages("P14.1: nothing is committed")
	s.write(1, 1)
	want(t, "P14.1: Flush", s.flush(), api.OK)
	s.wantKept("P14.1: nothing else is committed")
	want(t, "P14.1: Mount", s.mount(), api.OK)
	s.wantPages("P14.1: nothing else is committed")
}

// TestP14_1StaleOnFailed has stale records in a block that can't be erased any more.
func TestP14_1StaleOnFailed(t *testing.T) {
	g := small
	g.Spares = 1
	g.Blocks = 9
	s := newSim(t, g, api.Fault{Block: 2, After: 3})
	put(t, s.c, 0, 1, data(3, 1, 1))
	put(t, s.c, 0, 0, commit(1, 2))
	put(t, s.c, 2, 9, data(3, 2, 3))
	put(t, s.c, 2, 8, data(3, 5, 4))
	put(t, s.c, 2, 7, data(4, 5, 5))
	want(t, "P14.1: Mount", s.mount(), api.OK)
	s.now, s.kept = pages{3: 1}, pages{3: 1}
	s.wantPages("P14.1: stale on a failed block")
	for i := range byte(40) {
		s.write(0, i)
		want(t, "P14.1: Flush", s.flush(), api.OK)
		s.wantKept("P14.1: stale on a failed block")
		want(t, "P14.1: Mount", s.mount(), api.OK)
		s.wantPages("P14.1: stale on a failed block")
	}
}

// TestP14_1Torn has a torn page, half a tag behind it.
func TestP14_1Torn(t *testing.T) {
	s := newSim(t, small)
	s.write(2, 5)
	want(t, "Flush", s.flush(), api.OK)
	raw, _ := tag.Lay(block(small, 6), data(2, 1, 1000))
	s.c.Arm(api.Cut{Op: 1, Bytes: 32})
	want(t, "Program", s.c.Program(api.Place{Block: 7, Page: s.c.Used(7)}, raw), api.ErrOff)
	s.boot()
	s.wantPages("P14.1: a torn page")
	wantRead(t, "P14.1: a torn page", s.f, 2, block(small, 5), api.OK)
}

func TestP14_2Calls(t *testing.T) {
	f := mounted(t, chip.New(small))
	for _, page := range []int{-1, 8, 1 << 62, -1 << 63} {
		wantRead(t, "P14.2", f, page, nil, api.ErrArg)
		want(t, "P14.2: Write", f.Write(page, block(small, 1)), api.ErrArg)
		want(t, "P14.2: Trim", f.Trim(page), api.ErrArg)
	}
	for _, n := range []int{0, 23, 25, 40} {
		want(t, "P14.2: Write of so many bytes", f.Write(0, make([]byte, n)), api.ErrArg)
	}
	wantRead(t, "P14.2: no such page", f, 7, nil, api.ErrNone)
	want(t, "P14.2: Trim of no such page", f.Trim(7), api.ErrNone)
	b := block(small, 7)
	want(t, "P14.2: Write", f.Write(7, b), api.OK)
	b[0] = 1
	wantRead(t, "P14.2: not flushed", f, 7, block(small, 7), api.OK)
	got, _ := f.Read(7)
	got[0] = 1
	wantRead(t, "R4: Read", f, 7, block(small, 7), api.OK)
	want(t, "P14.2: Write", f.Write(0, block(small, 3)), api.OK)
	want(t, "P14.2: Write", f.Write(7, block(small, 8)), api.OK)
	wantList(t, "P14.1", f.Pages(), 0, 7)
	want(t, "P14.2: Flush", f.Flush(), api.OK)
	wantRead(t, "P14.2: flushed", f, 7, block(small, 8), api.OK)
	want(t, "P14.2: Trim", f.Trim(0), api.OK)
	want(t, "P14.2: Trim again", f.Trim(0), api.ErrNone)
	wantRead(t, "P14.2: trimmed", f, 0, nil, api.ErrNone)
	wantList(t, "P14.1", f.Pages(), 7)
	want(t, "P14.2: Write", f.Write(0, block(small, 4)), api.OK)
	wantRead(t, "P14.2: written again", f, 0, block(small, 4), api.OK)
	want(t, "P14.2: Write", f.Write(5, block(small, 5)), api.OK)
	want(t, "P14.2: Trim of what was not flushed", f.Trim(5), api.OK)
	want(t, "P14.2: Trim", f.Trim(7), api.OK)
	wantList(t, "P14.1", f.Pages(), 0)
	want(t, "P14.2: Flush", f.Flush(), api.OK)
	want(t, "P14.2: Flush of nothing", f.Flush(), api.OK)
	wantList(t, "P14.1", f.Pages(), 0)
	list := f.Pages()
	list[0] = 9
	wantList(t, "R4: Pages", f.Pages(), 0)
	wantList(t, "P14.1: mounted anew", mounted(t, f.Chip()).Pages(), 0)
}

func TestP14_2Off(t *testing.T) {
	c := chip.New(small)
	f := mounted(t, c)
	want(t, "Write", f.Write(1, block(small, 1)), api.OK)
	want(t, "Flush", f.Flush(), api.OK)
	want(t, "Arm", c.Arm(api.Cut{Op: 1}), api.OK)
	wantRead(t, "P14.2: the power goes meanwhile", f, 1, nil, api.ErrOff)
	for _, page := range []int{-1, 0, 1, 99} {
		wantRead(t, "P14.2: without power", f, page, nil, api.ErrOff)
		want(t, "P14.2: Write without power", f.Write(page, nil), api.ErrOff)
		want(t, "P14.2: Trim without power", f.Trim(page), api.ErrOff)
	}
	want(t, "P14.2: Flush without power", f.Flush(), api.ErrOff)
	want(t, "Boot", c.Boot(), api.OK)
	f = mounted(t, c)
	wantRead(t, "P14.2: behind a Boot", f, 1, block(small, 1), api.OK)
}

// TestExample is the chapter's.
func TestExample(t *testing.T) {
	s := newSim(t, small)
	s.write(2, 100)
	want(t, "Flush", s.flush(), api.OK)
	s.write(2, 200)
	s.c.Arm(api.Cut{Op: 1})
	_, e := s.c.Read(api.Place{})
	want(t, "a cut", e, api.ErrOff)
	s.boot()
	wantRead(t, "the example", s.f, 2, block(small, 100), api.OK)
}

// TestP14_3EachOperation cuts a Flush, and the Mount behind it, at each operation, with few bytes and with all.
func TestP14_3EachOperation(t *testing.T) {
	for _, g := range []api.Geometry{small, {Blocks: 8, Pages: 5, Bytes: 24, Spares: 1, Trigger: 2}} {
		for _, full := range []bool{false, true} {
			for op, done := 1, false; !done; op++ {
				for _, cut := range []api.Cut{{Op: op}, {Op: op, Bytes: 30, Fill: 255}, {Op: op, Bytes: 1000, Fill: 74}} {
					done = cutFlush(t, g, cut, full)
				}
			}
		}
	}
}

// cutFlush prepares a flash, and cuts one of its flushes; it tells whether that was through ahead of the cut.
func cutFlush(t *testing.T, g api.Geometry, cut api.Cut, full bool) bool {
	t.Helper()
	s := newSim(t, g)
	logical := geom.Logical(g)
	rounds := 1
	if full {
		rounds = 7
	}
	for i := range rounds {
		for page := range logical {
			s.write(page, byte(10*i+page))
		}
		want(t, "Flush", s.flush(), api.OK)
	}
	for page := range logical {
		if page%3 == 1 {
			s.trim(page)
		} else {
			s.write(page, byte(200+page))
		}
	}
	s.c.Arm(cut)
	if s.flush() == api.OK {
		return true
	}
	s.boot(cut)
	for page := range logical {
		s.write(page, byte(100+page))
	}
	want(t, "Flush", s.flush(), api.OK)
	s.wantKept("behind the next Flush")
	s.wantPages("behind the next Flush")
	return false
}

// TestP14_3AgainAndAgain cuts nearly every flush of a full flash: there must be room always.
func TestP14_3AgainAndAgain(t *testing.T) {
	for i, g := range geometries() {
		r := rand.New(rand.NewSource(int64(i)))
		for _, within := range []int{2, 5, 12, 40} {
			s := newSim(t, g)
			for page := range geom.Logical(g) {
				s.write(page, byte(page))
			}
			want(t, "Flush", s.flush(), api.OK)
			s.spend(r, 60, 1, within)
		}
	}
}

func TestP14_3Random(t *testing.T) {
	for seed := range int64(60) {
		r := rand.New(rand.NewSource(seed))
		g := geometries()[r.Intn(len(geometries()))]
		many := r.Intn(g.Spares + 1)
		if r.Intn(3) == 0 {
			many = r.Intn(api.MaxFaults + 1)
		}
		s := newSim(t, g, randomFaults(r, g, many, 10+r.Intn(200))...)
		s.spend(r, 80, r.Intn(4), 1+r.Intn(80))
	}
}

// TestP14_4Room writes all pages again and again, with as many faults as there are Spares.
func TestP14_4Room(t *testing.T) {
	for i, g := range geometries() {
		r := rand.New(rand.NewSource(int64(i)))
		s := newSim(t, g, randomFaults(r, g, g.Spares, 60)...)
		for round := range 60 {
			for page := range geom.Logical(g) {
				want(t, "P14.4: Write", s.write(page, byte(round+page)), api.OK)
			}
			want(t, "P14.4: Flush", s.flush(), api.OK)
			s.wantKept("P14.4: all pages")
			s.wantPages("P14.4: all pages")
		}
	}
}

// TestP14_4Wear writes one page, or two, for long beside others that never change.
func TestP14_4Wear(t *testing.T) {
	for _, g := range geometries() {
		for _, cold := range []int{0, 3, geom.Logical(g)} {
			s := newSim(t, g)
			for page := range cold {
				s.write(page, byte(page))
			}
			for i := range 1500 {
				s.write(0, byte(i))
				s.write(i%3, byte(i+1))
				want(t, "P14.4: Flush", s.flush(), api.OK)
			}
			s.wantKept("P14.4: for long")
		}
	}
}

// TestP14_4Worn mounts a chip of which somebody wore one block.
func TestP14_4Worn(t *testing.T) {
	s := newSim(t, small)
	s.write(1, 1)
	want(t, "Flush", s.flush(), api.OK)
	worn := chip.New(small)
	for range 100 {
		want(t, "Erase", worn.Erase(5), api.OK)
	}
	s.c, s.kept, s.now = worn, pages{}, pages{}
	for op := 1; op < 60; op++ {
		s.c.Arm(api.Cut{Op: op, Fill: byte(op)})
		if s.mount() == api.ErrOff {
			want(t, "Boot", s.c.Boot(), api.OK)
		}
	}
	s.c.Arm(api.Cut{Op: 1 << 30})
	want(t, "P14.4: Mount", s.mount(), api.OK)
	s.write(1, 1)
	want(t, "P14.4: Flush", s.flush(), api.OK)
}

// TestP14_4Degraded wears blocks out till more failed than there are Spares.
func TestP14_4Degraded(t *testing.T) {
	for _, g := range geometries() {
		fs := []api.Fault{}
		for b := range g.Spares + 1 {
			fs = append(fs, api.Fault{Block: b, After: 5 + 3*b})
		}
		s := newSim(t, g, fs...)
		e := api.OK
		for i := 0; e == api.OK && i < 2000; i++ {
			if e = s.write(i%geom.Logical(g), byte(i)); e == api.OK {
				e = s.flush()
			}
			s.wantKept("P14.3: till it is degraded")
		}
		if e != api.ErrDegraded || !s.f.Degraded() {
			t.Fatalf("P14.2: of %v, %v: %d", g, fs, e)
		}
		for range 3 {
			s.wantPages("P14.2: degraded")
			want(t, "P14.2: Write", s.write(0, 1), api.ErrReadOnly)
			want(t, "P14.2: Write of what may not be", s.f.Write(-1, nil), api.ErrArg)
			want(t, "P14.2: Trim", s.trim(0), api.ErrReadOnly)
			want(t, "P14.2: Trim of what may not be", s.f.Trim(99), api.ErrArg)
			want(t, "P14.2: Flush", s.flush(), api.ErrReadOnly)
			s.wantKept("P14.3: degraded")
		}
	}
}

// TestP14_4Factory has too many bad blocks from the start.
func TestP14_4Factory(t *testing.T) {
	fs := []api.Fault{}
	for b := range 8 {
		fs = append(fs, api.Fault{Block: b, Factory: true})
		s := newSim(t, small, fs...)
		if e := s.write(0, 1); e == api.OK {
			e = s.flush()
			if e != api.ErrDegraded {
				t.Errorf("P14.2: Flush with %d bad blocks: %d", b+1, e)
			}
		}
		want(t, "P14.2: Flush", s.flush(), api.ErrReadOnly)
		if !s.f.Degraded() {
			t.Error("P14.2: it is not degraded")
		}
	}
}

// TestFailedBlockIsRead lets blocks fail that hold pages: they are read still.
func TestFailedBlockIsRead(t *testing.T) {
	g := api.Geometry{Blocks: 10, Pages: 4, Bytes: 24, Spares: 4, Trigger: 2}
	for after := 1; after < 10; after++ {
		fs := []api.Fault{{Block: 0, After: after}, {Block: 1, After: after}, {Block: 2, After: after + 1}, {Block: 3, After: 4}}
		s := newSim(t, g, fs...)
		for i := range 40 {
			s.write(i%4, byte(i))
			want(t, "P14.4: Flush", s.flush(), api.OK)
			s.wantKept("P14.3: blocks fail")
			s.wantPages("P14.2: blocks fail")
		}
		if n, _, _, e := leaf.Count(s.c); e != api.OK || n < 0 {
			t.Errorf("Count: %d", e)
		}
	}
}
