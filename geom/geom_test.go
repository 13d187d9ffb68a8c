package geom_test

import (
	"testing"

	"jotter/api"
	"jotter/geom"
)

var small = api.Geometry{Blocks: 8, Pages: 4, Bytes: 32, Spares: 0, Trigger: 2}

func geo(blocks, pages, size, spares, trigger int) api.Geometry {
	return api.Geometry{Blocks: blocks, Pages: pages, Bytes: size, Spares: spares, Trigger: trigger}
}

func at(block, page int) api.Place { return api.Place{Block: block, Page: page} }

func right() []api.Geometry {
	return []api.Geometry{
		small, geo(8, 4, 24, 0, 2), geo(20, 8, 64, 4, 20), geo(20, 4, 24, 4, 2), geo(8, 8, 64, 3, 20), geo(12, 6, 40, 2, 5), geo(9, 5, 33, 1, 7), geo(8, 4, 64, 2, 20), geo(8, 7, 24, 3, 2), geo(10, 4, 24, 4, 2),
	}
}

func wrong() []api.Geometry {
	return []api.Geometry{
		{}, geo(7, 8, 32, 0, 2), geo(21, 8, 32, 0, 2), geo(8, 3, 32, 0, 2), geo(8, 9, 32, 0, 2), geo(8, 4, 23, 0, 2), geo(8, 4, 65, 0, 2), geo(8, 4, 32, -1, 2), geo(20, 8, 32, 5, 2), geo(8, 4, 32, 0, 1), geo(8, 4, 32, 0, 21),
		geo(8, 4, 32, 3, 2), geo(8, 5, 32, 3, 2), geo(8, 6, 32, 4, 2), geo(8, 8, 32, 4, 2), geo(8, 4, 32, 4, 2), geo(9, 5, 32, 4, 2), geo(-8, -4, 32, 0, 2), geo(1<<62, 4, 32, 0, 2), geo(8, 1<<62, 32, 0, 2), geo(8, 4, 32, -1<<63, 2), geo(0, 4, 32, 0, 2),
	}
}

func TestP5_1May(t *testing.T) {
	for _, g := range right() {
		if !geom.May(g) {
			t.Errorf("P5.1: May(%v) is false", g)
		}
	}
	for _, g := range wrong() {
		if geom.May(g) {
			t.Errorf("P5.1: May(%v) is true", g)
		}
	}
}

func TestP5_1EveryGeometry(t *testing.T) {
	for blocks := 6; blocks <= 22; blocks++ {
		for pages := 2; pages <= 10; pages++ {
			for spares := -1; spares <= 5; spares++ {
				g := api.Geometry{Blocks: blocks, Pages: pages, Bytes: 50, Spares: spares, Trigger: 9}
				logical := ((blocks-spares-3)*pages - 4) / 2
				want := blocks >= 8 && blocks <= 20 && pages >= 4 && pages <= 8 && spares >= 0 && spares <= 4 && logical >= 4
				if geom.May(g) != want {
					t.Errorf("P5.1: May(%v) is not %v", g, want)
				}
				if !want {
					logical = 0
				}
				if geom.Logical(g) != logical {
					t.Errorf("P5.1: Logical(%v): %d, not %d", g, geom.Logical(g), logical)
				}
			}
		}
	}
}

func TestP5_1Numbers(t *testing.T) {
	for _, x := range []struct {
		g                          api.Geometry
		logical, raw, bound, slack int
	}{
		{small, 8, 48, 15360, 16}, {geo(20, 8, 64, 4, 20), 50, 80, 192000, 40}, {geo(9, 5, 33, 1, 7), 10, 49, 24300, 18}, {geo(8, 7, 24, 3, 2), 5, 40, 26880, 16}, {geo(20, 8, 64, 0, 20), 66, 80, 192000, 40},
	} {
		if geom.Logical(x.g) != x.logical || geom.Raw(x.g) != x.raw || geom.Bound(x.g) != x.bound || geom.Slack(x.g) != x.slack {
			t.Errorf("P5.1: of %v: %d, %d, %d, %d", x.g, geom.Logical(x.g), geom.Raw(x.g), geom.Bound(x.g), geom.Slack(x.g))
		}
	}
	for _, g := range wrong() {
		if geom.Logical(g) != 0 || geom.Raw(g) != 0 || geom.Bound(g) != 0 || geom.Slack(g) != 0 {
			t.Errorf("P5.1: of %v not all numbers are 0", g)
		}
	}
}

func TestP5_1Places(t *testing.T) {
	for _, g := range right() {
		p, ok := api.Place{}, true
		for n := range g.Blocks * g.Pages {
			if !ok || p.Block != n/g.Pages || p.Page != n%g.Pages || geom.Number(g, p) != n {
				t.Fatalf("P5.1: of %v place %d is %v, its number %d", g, n, p, geom.Number(g, p))
			}
			p, ok = geom.Next(g, p)
		}
		if ok || p != (api.Place{}) {
			t.Errorf("P5.1: of %v behind the last one: %v, %v", g, p, ok)
		}
		for _, p := range []api.Place{at(-1, 0), at(0, -1), at(0, g.Pages), at(g.Blocks, 0), at(1<<62, 1), at(1, 1<<62), at(-1, g.Pages), at(1, -g.Pages)} {
			if n := geom.Number(g, p); n != -1 {
				t.Errorf("P5.1: Number(%v, %v): %d", g, p, n)
			}
			if q, ok := geom.Next(g, p); ok || q != (api.Place{}) {
				t.Errorf("P5.1: Next(%v, %v): %v, %v", g, p, q, ok)
			}
		}
	}
	for _, g := range wrong() {
		for _, p := range []api.Place{{}, at(1, 1), at(-1, 0), at(5, 99)} {
			if n := geom.Number(g, p); n != 0 {
				t.Errorf("P5.1: Number(%v, %v): %d, not 0", g, p, n)
			}
			if q, ok := geom.Next(g, p); ok || q != (api.Place{}) {
				t.Errorf("P5.1: Next(%v, %v): %v, %v", g, p, q, ok)
			}
		}
	}
}
