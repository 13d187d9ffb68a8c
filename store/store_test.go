package store_test

import (
	"bytes"
	"maps"
	"math/rand"
	"slices"
	"testing"

	"jotter/api"
	"jotter/chip"
	"jotter/extent"
	"jotter/flash"
	"jotter/store"
)

// small has 8 logical pages.
var small = api.Geometry{Blocks: 8, Pages: 4, Bytes: 32, Spares: 0, Trigger: 4}

func want(t *testing.T, what string, got api.Errno, want api.Errno) {
	t.Helper()
	if got != want {
		t.Errorf("%s: %d, not %d", what, got, want)
	}
}

func open(t *testing.T, c *chip.Chip) *store.Store {
	t.Helper()
	f, e := flash.Mount(c)
	want(t, "Mount", e, api.OK)
	s, e := store.Open(f)
	if e != api.OK || s == nil {
		t.Fatalf("P16.1: Open: %d", e)
	}
	if s.Flash() != f {
		t.Error("Flash is another one")
	}
	return s
}

// objects is what a store holds.
type objects map[int]string

// wantAll asks a store for everything.
func wantAll(t *testing.T, what string, s *store.Store, g api.Geometry, o objects) {
	t.Helper()
	ids := slices.Sorted(maps.Keys(o))
	sizes := []int{}
	for _, id := range ids {
		sizes = append(sizes, len(o[id]))
		if b, e := s.Get(id); e != api.OK || string(b) != o[id] {
			t.Fatalf("%s: Get(%d): %q, %d, not %q", what, id, b, e, o[id])
		}
	}
	if got := s.IDs(); !slices.Equal(got, ids) {
		t.Fatalf("%s: IDs: %v, not %v", what, got, ids)
	}
	if got, need := s.Need(), extent.Need(g, sizes); got != need {
		t.Fatalf("%s: Need: %d, not %d", what, got, need)
	}
}

func TestR3Nil(t *testing.T) {
	var s *store.Store
	want(t, "R3: Put", s.Put(0, nil), api.ErrNil)
	_, e := s.Get(0)
	want(t, "R3: Get", e, api.ErrNil)
	want(t, "R3: Drop", s.Drop(0), api.ErrNil)
	want(t, "R3: Sync", s.Sync(), api.ErrNil)
	if len(s.IDs()) != 0 || s.Need() != 0 || s.Flash() != nil {
		t.Error("R3: a nil store tells something")
	}
	s, e = store.Open(nil)
	want(t, "R3: Open(nil)", e, api.ErrNil)
	if s != nil {
		t.Error("R2: Open(nil) tells a store")
	}
}

func TestP16_1Calls(t *testing.T) {
	s := open(t, chip.New(small))
	wantAll(t, "P16.1: Open of no pages", s, small, objects{})
	if s.Need() != 1 {
		t.Errorf("P16.1: Need of none: %d", s.Need())
	}
	for _, id := range []int{-1, 4096, 1 << 62, -1 << 63} {
		want(t, "P16.1: Put", s.Put(id, nil), api.ErrArg)
		b, e := s.Get(id)
		want(t, "P16.1: Get", e, api.ErrArg)
		want(t, "P16.1: Drop", s.Drop(id), api.ErrArg)
		if len(b) != 0 {
			t.Error("R2: Get tells bytes")
		}
	}
	want(t, "P16.1: Put of too much", s.Put(1, make([]byte, 1<<16+1)), api.ErrArg)
	want(t, "P16.1: Put of much", s.Put(1, make([]byte, 1<<16)), api.ErrSpace)
	for _, id := range []int{0, 5, 4095} {
		_, e := s.Get(id)
		want(t, "P16.1: Get of none", e, api.ErrNone)
		want(t, "P16.1: Drop of none", s.Drop(id), api.ErrNone)
	}
	b := []byte("ab")
	want(t, "P16.1: Put", s.Put(4095, b), api.OK)
	b[0] = 'x'
	want(t, "P16.1: Put", s.Put(0, nil), api.OK)
	want(t, "P16.1: Put", s.Put(7, bytes.Repeat([]byte{7}, 33)), api.OK)
	o := objects{4095: "ab", 0: "", 7: string(bytes.Repeat([]byte{7}, 33))}
	wantAll(t, "P16.1: Put", s, small, o)
	got, _ := s.Get(4095)
	got[0] = 'y'
	ids := s.IDs()
	ids[0] = 99
	wantAll(t, "R4", s, small, o)
	want(t, "P16.1: Put again", s.Put(7, []byte("c")), api.OK)
	want(t, "P16.1: Drop", s.Drop(0), api.OK)
	want(t, "P16.1: Drop again", s.Drop(0), api.ErrNone)
	wantAll(t, "P16.1: Drop", s, small, objects{4095: "ab", 7: "c"})
}

func TestP16_1Space(t *testing.T) {
	s := open(t, chip.New(small))
	want(t, "P16.3: Put", s.Put(1, make([]byte, 7*32)), api.OK)
	want(t, "P16.3: Put", s.Put(1, make([]byte, 7*32+1)), api.ErrSpace)
	want(t, "P16.3: Put", s.Put(2, nil), api.ErrSpace)
	wantAll(t, "P16.3: full", s, small, objects{1: string(make([]byte, 7*32))})
	want(t, "P16.2: Sync", s.Sync(), api.OK)
	want(t, "P16.3: less of the same", s.Put(1, make([]byte, 6*32)), api.OK)
	want(t, "P16.3: Put", s.Put(2, make([]byte, 33)), api.ErrSpace)
	want(t, "P16.3: Put", s.Put(2, make([]byte, 32)), api.OK)
	want(t, "P16.2: Sync", s.Sync(), api.OK)
	wantAll(t, "P16.3: full", open(t, s.Flash().Chip()), small, objects{1: string(make([]byte, 6*32)), 2: string(make([]byte, 32))})
	// Five objects of a page need an index of two.
	s = open(t, chip.New(small))
	for id := range 5 {
		want(t, "P16.3: Put", s.Put(id, nil), api.OK)
	}
	want(t, "P16.3: Put", s.Put(5, nil), api.OK)
	want(t, "P16.3: Put", s.Put(6, nil), api.ErrSpace)
	want(t, "P16.2: Sync", s.Sync(), api.OK)
	wantAll(t, "P16.3: full", open(t, s.Flash().Chip()), small, objects{0: "", 1: "", 2: "", 3: "", 4: "", 5: ""})
}

// TestExample is the chapter's.
func TestExample(t *testing.T) {
	c := chip.New(small)
	s := open(t, c)
	want(t, "Put", s.Put(3, []byte("ab")), api.OK)
	want(t, "Sync", s.Sync(), api.OK)
	want(t, "Put", s.Put(3, []byte("c")), api.OK)
	want(t, "Arm", c.Arm(api.Cut{Op: 1}), api.OK)
	want(t, "P16.2: Sync, cut", s.Sync(), api.ErrOff)
	want(t, "P16.2: Sync without power", s.Sync(), api.ErrOff)
	want(t, "Boot", c.Boot(), api.OK)
	wantAll(t, "the example", open(t, c), small, objects{3: "ab"})
}

func TestP16_1OpenOff(t *testing.T) {
	for _, put := range []bool{false, true} {
		c := chip.New(small)
		s := open(t, c)
		if put {
			want(t, "Put", s.Put(3, []byte("ab")), api.OK)
			want(t, "Sync", s.Sync(), api.OK)
		}
		f, _ := flash.Mount(c)
		want(t, "Arm", c.Arm(api.Cut{Op: 1}), api.OK)
		if put {
			_, e := store.Open(f)
			want(t, "P16.1: Open, cut", e, api.ErrOff)
		} else {
			_, _ = c.Read(api.Place{})
		}
		s, e := store.Open(f)
		want(t, "P16.1: Open without power", e, api.ErrOff)
		if s != nil {
			t.Error("R2: Open without power tells a store")
		}
	}
}

// TestP16_1Foreign opens stores over pages that no store left: no panic, and an end.
func TestP16_1Foreign(t *testing.T) {
	for seed := range int64(500) {
		r := rand.New(rand.NewSource(seed))
		f, _ := flash.Mount(chip.New(small))
		for range r.Intn(9) {
			b := make([]byte, 32)
			for i := range b {
				b[i] = byte(r.Intn(1 + r.Intn(10)))
			}
			want(t, "Write", f.Write(r.Intn(8), b), api.OK)
		}
		s, e := store.Open(f)
		if e != api.OK && e != api.ErrForm || (s != nil) != (e == api.OK) {
			t.Errorf("P16.1: Open of foreign pages: %d", e)
		}
	}
}

// world drives a store and knows what it must hold.
type world struct {
	t           *testing.T
	g           api.Geometry
	c           *chip.Chip
	s           *store.Store
	now, synced objects
}

func (w *world) put(id int, b string) {
	w.t.Helper()
	after := maps.Clone(w.now)
	after[id] = b
	sizes := []int{}
	for _, x := range after {
		sizes = append(sizes, len(x))
	}
	wanted := api.OK
	if extent.Need(w.g, sizes) > w.s.Flash().Logical() {
		wanted = api.ErrSpace
	} else {
		w.now = after
	}
	want(w.t, "P16.3: Put", w.s.Put(id, []byte(b)), wanted)
}

func (w *world) drop(id int) {
	w.t.Helper()
	wanted := api.OK
	if _, ok := w.now[id]; !ok {
		wanted = api.ErrNone
	}
	delete(w.now, id)
	want(w.t, "P16.1: Drop", w.s.Drop(id), wanted)
}

// sync syncs, perhaps with a cut, and looks at what is there behind it.
func (w *world) sync(cut api.Cut) bool {
	w.t.Helper()
	if cut.Op > 0 {
		w.c.Arm(cut)
	}
	e := w.s.Sync()
	if e == api.OK {
		w.c.Arm(api.Cut{Op: 1 << 30})
		w.synced = maps.Clone(w.now)
		wantAll(w.t, "P16.2: synced", w.s, w.g, w.now)
		return true
	}
	want(w.t, "P16.2: Sync, cut", e, api.ErrOff)
	want(w.t, "Boot", w.c.Boot(), api.OK)
	w.s = open(w.t, w.c)
	got := objects{}
	for _, id := range w.s.IDs() {
		b, _ := w.s.Get(id)
		got[id] = string(b)
	}
	if !maps.Equal(got, w.synced) && !maps.Equal(got, w.now) {
		w.t.Fatalf("P16.2: behind a cut: %v, not %v, nor %v", got, w.synced, w.now)
	}
	w.now, w.synced = got, maps.Clone(got)
	return false
}

func newWorld(t *testing.T, g api.Geometry, fs ...api.Fault) *world {
	c := chip.New(g, fs...)
	return &world{t: t, g: g, c: c, s: open(t, c), now: objects{}, synced: objects{}}
}

func text(r *rand.Rand, n int) string {
	b := make([]byte, n)
	for i := range b {
		b[i] = byte(r.Intn(256))
	}
	return string(b)
}

func TestP16_2Random(t *testing.T) {
	for seed := range int64(40) {
		r := rand.New(rand.NewSource(seed))
		g := []api.Geometry{small, {Blocks: 20, Pages: 8, Bytes: 24, Spares: 2, Trigger: 2}, {Blocks: 9, Pages: 6, Bytes: 64, Spares: 1, Trigger: 9}}[r.Intn(3)]
		fs := []api.Fault{}
		for b := range g.Spares {
			fs = append(fs, api.Fault{Block: 3 * b, After: r.Intn(50)})
		}
		w := newWorld(t, g, fs...)
		for range 60 {
			for range r.Intn(6) {
				id := r.Intn(8) * 585
				if r.Intn(4) == 0 {
					w.drop(id)
				} else {
					w.put(id, text(r, r.Intn(1+r.Intn(20*g.Bytes))))
				}
			}
			cut := api.Cut{}
			if r.Intn(2) == 0 {
				cut = api.Cut{Op: 1 + r.Intn(80), Bytes: r.Intn(90), Fill: byte(r.Intn(256))}
			}
			w.sync(cut)
			if r.Intn(3) == 0 {
				w.s = open(t, w.c)
				w.now = maps.Clone(w.synced)
			}
			wantAll(t, "P16.2", w.s, g, w.now)
		}
	}
}

// TestP16_2EachOperation cuts a Sync at each operation.
func TestP16_2EachOperation(t *testing.T) {
	r := rand.New(rand.NewSource(1))
	for op, done := 1, false; !done; op++ {
		for _, cut := range []api.Cut{{Op: op}, {Op: op, Bytes: 1 << 30, Fill: 255}} {
			w := newWorld(t, small)
			for i := range 5 {
				w.put(1, text(r, 30*i))
				w.put(2+i%3, text(r, 10))
				w.sync(api.Cut{})
			}
			w.put(1, text(r, 60))
			w.drop(3)
			w.put(9, text(r, 33))
			done = w.sync(cut)
		}
	}
}

func TestP16_1Degraded(t *testing.T) {
	c := chip.New(small, api.Fault{Block: 0, After: 4}, api.Fault{Block: 1, After: 4})
	s := open(t, c)
	o, synced := objects{}, objects{}
	e := api.OK
	for i := 0; e == api.OK && i < 200; i++ {
		if e = s.Put(i%3, []byte{byte(i)}); e != api.OK {
			break
		}
		o[i%3] = string([]byte{byte(i)})
		if e = s.Sync(); e == api.OK {
			synced = maps.Clone(o)
		}
	}
	want(t, "P16.2: with too many faults", e, api.ErrDegraded)
	want(t, "P16.1: Put", s.Put(0, nil), api.ErrReadOnly)
	want(t, "P16.1: Put", s.Put(-1, nil), api.ErrArg)
	want(t, "P16.1: Put", s.Put(5, make([]byte, 1<<16)), api.ErrReadOnly)
	want(t, "P16.1: Drop", s.Drop(0), api.ErrReadOnly)
	want(t, "P16.1: Drop", s.Drop(99), api.ErrReadOnly)
	want(t, "P16.1: Drop", s.Drop(-1), api.ErrArg)
	want(t, "P16.2: Sync", s.Sync(), api.ErrReadOnly)
	wantAll(t, "P16.1: degraded", s, small, o)
	s = open(t, c)
	got := objects{}
	for _, id := range s.IDs() {
		b, _ := s.Get(id)
		got[id] = string(b)
	}
	if !maps.Equal(got, o) && !maps.Equal(got, synced) {
		t.Errorf("P16.2: behind ErrDegraded: %v, not %v, nor %v", got, o, synced)
	}
}
