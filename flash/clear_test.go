package flash_test

import (
	"math/rand"
	"testing"

	"jotter/api"
	"jotter/geom"
)

// coldEverywhere lays a page that does not change into nearly each block.
func coldEverywhere(t *testing.T, r *rand.Rand, g api.Geometry, fs ...api.Fault) *sim {
	t.Helper()
	s := newSim(t, g, fs...)
	logical := geom.Logical(g)
	for page := range logical - 1 {
		s.write(page, byte(page))
		want(t, "Flush", s.flush(), api.OK)
		for range r.Intn(g.Pages) {
			s.write(logical-1, byte(page))
			want(t, "Flush", s.flush(), api.OK)
		}
	}
	return s
}

// TestP14_3Clearing has a page that does not change in nearly each block, and cuts just when blocks are cleared.
func TestP14_3Clearing(t *testing.T) {
	for seed := range int64(100) {
		r := rand.New(rand.NewSource(seed))
		g := geometries()[r.Intn(len(geometries()))]
		logical := geom.Logical(g)
		within := 2 + r.Intn(4*g.Pages)
		s := coldEverywhere(t, r, g)
		for range 400 {
			page := logical - 1
			if r.Intn(8) == 0 {
				page = r.Intn(logical)
			}
			s.write(page, byte(r.Intn(250)))

			s.c.Arm(api.Cut{Op: 1 + r.Intn(within), Bytes: r.Intn(60), Fill: byte(r.Intn(2) * 255)})
			if s.flush() == api.ErrOff {
				s.boot()
			}

			s.c.Arm(api.Cut{Op: 1 << 30})
		}
		s.wantKept("behind all cuts")
	}
}

// TestP14_4Failing lets as many blocks fail as there are Spares, while others are cleared.
func TestP14_4Failing(t *testing.T) {
	for seed := range int64(150) {
		r := rand.New(rand.NewSource(seed))
		g := geometries()[r.Intn(len(geometries()))]
		g.Trigger = 20
		s := coldEverywhere(t, r, g, randomFaults(r, g, g.Spares, 30)...)
		for range 200 {
			for range 1 + r.Intn(2) {
				s.write(geom.Logical(g)-1-r.Intn(2), byte(r.Intn(250)))
			}
			want(t, "P14.4: Flush", s.flush(), api.OK)
		}
		s.wantKept("behind all faults")
		s.wantPages("behind all faults")
	}
}
