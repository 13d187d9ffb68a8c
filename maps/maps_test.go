package maps_test

import (
	"slices"
	"testing"

	"jotter/api"
	"jotter/maps"
)

// g has 8 logical pages.
var g = api.Geometry{Blocks: 8, Pages: 4, Bytes: 32, Spares: 0, Trigger: 2}

func at(block, page int) api.Place { return api.Place{Block: block, Page: page} }

func put(t *testing.T, m *maps.Map, page int, p api.Place, want bool) {
	t.Helper()
	if m.Put(page, p) != want {
		t.Errorf("P13.1: Put(%d, %v) is not %v", page, p, want)
	}
}

// wantMap looks at everything that a map tells.
func wantMap(t *testing.T, what string, m *maps.Map, want map[int]api.Place) {
	t.Helper()
	who := map[api.Place]int{}
	live := map[int]int{}
	pages := []int{}
	for page, p := range want {
		who[p] = page
		live[p.Block]++
		pages = append(pages, page)
	}
	slices.Sort(pages)
	if got := m.Pages(); !slices.Equal(got, pages) {
		t.Errorf("%s: Pages: %v, not %v", what, got, pages)
	}
	for page := -2; page < 11; page++ {
		p, ok := m.At(page)
		if wanted, there := want[page]; p != wanted || ok != there {
			t.Errorf("%s: At(%d): %v, %v", what, page, p, ok)
		}
	}
	for b := -1; b < 10; b++ {
		if got := m.Live(b); got != live[b] {
			t.Errorf("%s: Live(%d): %d, not %d", what, b, got, live[b])
		}
		for i := -1; i < 6; i++ {
			page, ok := m.Who(at(b, i))
			if wanted, there := who[at(b, i)]; page != wanted || ok != there {
				t.Errorf("%s: Who({%d %d}): %d, %v", what, b, i, page, ok)
			}
		}
	}
}

func TestP13_1Put(t *testing.T) {
	m := maps.New(g)
	wantMap(t, "P13.1: New", m, nil)
	put(t, m, 3, at(1, 2), true)
	put(t, m, 4, at(1, 2), false)
	wantMap(t, "P13.1: the chapter's example", m, map[int]api.Place{3: at(1, 2)})
	put(t, m, 3, at(1, 2), true)
	put(t, m, 0, at(0, 0), true)
	put(t, m, 7, at(7, 3), true)
	put(t, m, 4, at(1, 1), true)
	wantMap(t, "P13.1: Put", m, map[int]api.Place{3: at(1, 2), 0: at(0, 0), 7: at(7, 3), 4: at(1, 1)})
	put(t, m, 3, at(2, 0), true)
	put(t, m, 4, at(0, 0), false)
	wantMap(t, "P13.1: Put elsewhere", m, map[int]api.Place{3: at(2, 0), 0: at(0, 0), 7: at(7, 3), 4: at(1, 1)})
	put(t, m, 4, at(1, 2), true)
	wantMap(t, "P13.1: Put where another one stood", m, map[int]api.Place{3: at(2, 0), 0: at(0, 0), 7: at(7, 3), 4: at(1, 2)})
}

func TestP13_1Wrong(t *testing.T) {
	m := maps.New(g)
	put(t, m, 5, at(3, 3), true)
	for _, page := range []int{-1, 8, 1 << 62, -1 << 63} {
		put(t, m, page, at(0, 0), false)
		if m.Drop(page) {
			t.Errorf("P13.1: Drop(%d)", page)
		}
	}
	for _, p := range []api.Place{at(-1, 0), at(0, -1), at(8, 0), at(0, 4), at(1<<62, 0), at(0, 1<<62), at(-1, 4)} {
		put(t, m, 5, p, false)
		put(t, m, 6, p, false)
	}
	wantMap(t, "P13.1: what was not put", m, map[int]api.Place{5: at(3, 3)})
	if maps.New(api.Geometry{}) != nil || maps.New(api.Geometry{Blocks: 8, Pages: 4, Bytes: 32, Trigger: 1}) != nil {
		t.Error("P13.1: New of a geometry that may not be")
	}
}

func TestP13_1DropCopy(t *testing.T) {
	m := maps.New(g)
	put(t, m, 2, at(1, 0), true)
	put(t, m, 6, at(1, 3), true)
	c := m.Copy()
	if m.Drop(3) || !m.Drop(2) || m.Drop(2) {
		t.Error("P13.1: Drop")
	}
	wantMap(t, "P13.1: Drop", m, map[int]api.Place{6: at(1, 3)})
	wantMap(t, "P13.1: Copy", c, map[int]api.Place{2: at(1, 0), 6: at(1, 3)})
	put(t, m, 5, at(1, 0), true)
	put(t, c, 6, at(0, 1), true)
	wantMap(t, "P13.1: the place is free again", m, map[int]api.Place{6: at(1, 3), 5: at(1, 0)})
	wantMap(t, "P13.1: Copy", c, map[int]api.Place{2: at(1, 0), 6: at(0, 1)})
	pages := m.Pages()
	pages[0] = 99
	wantMap(t, "R4: Pages", m, map[int]api.Place{6: at(1, 3), 5: at(1, 0)})
}

func TestR3Nil(t *testing.T) {
	var m *maps.Map
	put(t, m, 0, at(0, 0), false)
	if m.Drop(0) || m.Copy() != nil {
		t.Error("R3: a nil map")
	}
	wantMap(t, "R3: a nil map", m, nil)
}
