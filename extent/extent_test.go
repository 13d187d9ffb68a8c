package extent_test

import (
	"bytes"
	"testing"

	"jotter/api"
	"jotter/extent"
)

var (
	g     = api.Geometry{Blocks: 8, Pages: 4, Bytes: 32, Spares: 0, Trigger: 2}
	least = api.Geometry{Blocks: 20, Pages: 8, Bytes: 24, Spares: 0, Trigger: 2}
)

const greatest = 1 << 20

func wrong() []api.Geometry {
	return []api.Geometry{{}, {Blocks: 8, Pages: 4, Bytes: 32, Trigger: 1}, {Blocks: 8, Pages: 4, Bytes: 23, Trigger: 2}, {Blocks: 8, Pages: 4, Bytes: 2, Trigger: 2}}
}

func TestP15_1Pages(t *testing.T) {
	for _, x := range []struct{ size, pages24, pages32 int }{{0, 1, 1}, {1, 1, 1}, {24, 1, 1}, {25, 2, 1}, {32, 2, 1}, {33, 2, 2}, {48, 2, 2}, {49, 3, 2}, {64, 3, 2}, {65, 3, 3}, {greatest, 43691, 32768}, {greatest - 1, 43691, 32768}, {greatest + 1, 0, 0}, {-1, 0, 0}, {1 << 62, 0, 0}, {-1 << 63, 0, 0}} {
		if a, b := extent.Pages(least, x.size), extent.Pages(g, x.size); a != x.pages24 || b != x.pages32 {
			t.Errorf("P15.1: Pages of %d: %d, %d", x.size, a, b)
		}
		for _, w := range wrong() {
			if n := extent.Pages(w, x.size); n != 0 {
				t.Errorf("P15.1: Pages(%v, %d): %d", w, x.size, n)
			}
		}
	}
}

func same(size int, n int) []int {
	sizes := make([]int, n)
	for i := range sizes {
		sizes[i] = size
	}
	return sizes
}

func TestP15_1IndexNeed(t *testing.T) {
	for _, x := range []struct {
		g           api.Geometry
		sizes       []int
		index, need int
	}{
		{g, nil, 1, 1}, {g, []int{}, 1, 1}, {g, []int{0}, 1, 2}, {g, []int{33, 0}, 1, 4}, {g, same(1, 4), 1, 5}, {g, same(32, 5), 2, 7}, {g, same(33, 3), 1, 7}, {g, []int{33, 33, 33, 1}, 2, 9},
		{g, []int{32 * 12}, 1, 13}, {g, []int{32*12 - 1}, 1, 13}, {g, []int{32 * 11}, 1, 12}, {g, []int{32*12 + 1}, 2, 15},
		{least, same(24, 3), 1, 4}, {least, same(24, 4), 2, 6}, {least, []int{24 * 8}, 1, 9}, {least, []int{24 * 9}, 2, 11}, {least, same(0, 7), 2, 9}, {least, same(0, 8), 3, 11},
		{g, []int{greatest}, 2185, 34953}, {g, same(greatest, 3), 6555, 104859},
		{g, []int{1, -1}, 0, 0}, {g, []int{greatest + 1}, 0, 0}, {g, []int{greatest + 1, 1}, 0, 0}, {g, []int{1 << 62, 1 << 62}, 0, 0}, {g, []int{-1 << 63}, 0, 0},
	} {
		if a, b := extent.Index(x.g, x.sizes), extent.Need(x.g, x.sizes); a != x.index || b != x.need {
			t.Errorf("P15.1: of %v, %v: Index %d, Need %d, not %d, %d", x.g, x.sizes, a, b, x.index, x.need)
		}
		for _, w := range wrong() {
			if a, b := extent.Index(w, x.sizes), extent.Need(w, x.sizes); a != 0 || b != 0 {
				t.Errorf("P15.1: of %v, %v: Index %d, Need %d", w, x.sizes, a, b)
			}
		}
	}
}

func counting(n int) []byte {
	b := make([]byte, n)
	for i := range b {
		b[i] = byte(i*7 + 1)
	}
	return b
}

func TestP15_1CutJoin(t *testing.T) {
	for n := range 200 {
		b := counting(n)
		parts := extent.Cut(g, b)
		if len(parts) != extent.Pages(g, n) {
			t.Fatalf("P15.1: Cut of %d bytes has %d parts", n, len(parts))
		}
		padded := append(bytes.Clone(b), make([]byte, 32*len(parts)-n)...)
		for i, part := range parts {
			if !bytes.Equal(part, padded[32*i:32*i+32]) {
				t.Errorf("P15.1: Cut of %d bytes, part %d: %v", n, i, part)
			}
		}
		for _, size := range []int{0, 1, n, n / 2, 32 * len(parts)} {
			size = min(size, 32*len(parts))
			if j, ok := extent.Join(parts, size); !ok || !bytes.Equal(j, padded[:size]) {
				t.Errorf("P15.1: Join of %d bytes, of Cut of %d: %v, %v", size, n, j, ok)
			}
		}
		for _, size := range []int{32*len(parts) + 1, -1, 1 << 62, -1 << 63} {
			if j, ok := extent.Join(parts, size); ok || len(j) != 0 {
				t.Errorf("P15.1: Join of %d bytes: %v, %v", size, j, ok)
			}
		}
	}
	for _, w := range wrong() {
		if parts := extent.Cut(w, counting(5)); len(parts) != 0 {
			t.Errorf("P15.1: Cut over %v: %v", w, parts)
		}
	}
	if n := len(extent.Cut(g, make([]byte, greatest))); n != 32768 {
		t.Errorf("P15.1: Cut of the greatest size: %d", n)
	}
	if n := len(extent.Cut(g, make([]byte, greatest+1))); n != 0 {
		t.Errorf("P15.1: Cut of one more: %d", n)
	}
}

func TestP15_1JoinAny(t *testing.T) {
	parts := [][]byte{{1}, nil, {2, 3, 4}, {}, {5}}
	for n := range 6 {
		if b, ok := extent.Join(parts, n); !ok || !bytes.Equal(b, []byte{1, 2, 3, 4, 5}[:n]) {
			t.Errorf("P15.1: Join of %d: %v, %v", n, b, ok)
		}
	}
	if b, ok := extent.Join(parts, 6); ok || len(b) != 0 {
		t.Errorf("P15.1: Join of 6: %v, %v", b, ok)
	}
	if b, ok := extent.Join(nil, 0); !ok || len(b) != 0 {
		t.Errorf("P15.1: Join of none: %v, %v", b, ok)
	}
	if b, ok := extent.Join(nil, 1); ok || len(b) != 0 {
		t.Errorf("P15.1: Join of none: %v, %v", b, ok)
	}
	b := counting(40)
	cut := extent.Cut(g, b)
	cut[0][0] = 99
	_ = append(cut[0], 98)
	if b[0] != 1 || cut[1][0] == 98 {
		t.Error("R4: Cut shares memory")
	}
	joined, _ := extent.Join(cut[:1], 32)
	joined[1] = 97
	if cut[0][1] == 97 {
		t.Error("R4: Join shares memory")
	}
}
