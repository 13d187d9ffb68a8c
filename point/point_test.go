package point_test

import (
	"math"
	"slices"
	"testing"

	"jotter/point"
)

var (
	minus = math.Copysign(0, -1)
	nan   = math.NaN()
	inf   = math.Inf(1)
)

// strange are numbers that may not be points.
func strange() []complex128 {
	return []complex128{
		32768, -32769, 32768i, -32769i, 0.5, 0.5i, 1.25 + 1i, 1 - 0.75i, -0.5, 32766.5, 1e300, -1e300i,
		complex(minus, 0), complex(0, minus), complex(minus, minus), complex(1, minus), complex(minus, 1),
		complex(nan, 0), complex(0, nan), complex(inf, 0), complex(0, inf), complex(-inf, 0), complex(0, -inf), complex(math.SmallestNonzeroFloat64, 0),
	}
}

func plain(p complex128) bool {
	return !(real(p) == 0 && math.Signbit(real(p))) && !(imag(p) == 0 && math.Signbit(imag(p)))
}

func TestP1_1May(t *testing.T) {
	for _, p := range []complex128{0, 1, -1, 1i, -1i, 32767, -32768, 32767i, -32768i, 32767 + 32767i, -32768 - 32768i, 32767 - 32768i, 12 + 345i} {
		if !point.May(p) {
			t.Errorf("P1.1: May(%v) is false", p)
		}
	}
	for _, p := range strange() {
		if point.May(p) {
			t.Errorf("P1.1: May(%v) is true", p)
		}
	}
}

func TestP1_1Turn(t *testing.T) {
	for _, x := range []struct {
		p, by, want complex128
		ok          bool
	}{
		{3 + 4i, 1i, -4 + 3i, true}, {1, 1, 1, true}, {2 + 3i, 4 - 5i, 23 + 2i, true}, {0, -7 - 3i, 0, true}, {-7, 0, 0, true},
		{-5i, -3i, -15, true}, {1i, 1i, -1, true}, {181, 181, 32761, true}, {32767, 1, 32767, true}, {32767, -1, -32767, true},
		{-32768, 1, -32768, true}, {-32768, -1, 0, false}, {-32768, 1i, -32768i, true}, {-32768, -1i, 0, false}, {16384, 2, 0, false},
		{16384, -2, -32768, true}, {256 + 256i, 128i, -32768 + 32768i, false}, {32767 + 32767i, 1 + 1i, 0, false}, {-32768 - 32768i, -32768 - 32768i, 0, false},
	} {
		if !x.ok {
			x.want = 0
		}
		if q, ok := point.Turn(x.p, x.by); q != x.want || ok != x.ok || !plain(q) {
			t.Errorf("P1.1: Turn(%v, %v): %v, %v, not %v, %v", x.p, x.by, q, ok, x.want, x.ok)
		}
	}
}

func TestP1_1Move(t *testing.T) {
	for _, x := range []struct {
		p, by, want complex128
		ok          bool
	}{
		{3 + 4i, 1i, 3 + 5i, true}, {5 - 5i, -5 + 5i, 0, true}, {32766, 1, 32767, true}, {32767, 1, 0, false}, {-32767i, -1i, -32768i, true}, {-32768i, -1i, 0, false}, {0, 0, 0, true},
		{-32768 + 32767i, 32767 - 32768i, -1 - 1i, true},
	} {
		if q, ok := point.Move(x.p, x.by); q != x.want || ok != x.ok || !plain(q) {
			t.Errorf("P1.1: Move(%v, %v): %v, %v, not %v, %v", x.p, x.by, q, ok, x.want, x.ok)
		}
	}
}

func TestP1_1StrangeOperands(t *testing.T) {
	for _, s := range strange() {
		for _, x := range [][2]complex128{{s, 1}, {1, s}, {s, 0}, {0, s}, {s, s}, {s, 1i}, {2i, s}} {
			if q, ok := point.Turn(x[0], x[1]); q != 0 || ok || !plain(q) {
				t.Errorf("P1.1: Turn(%v, %v): %v, %v", x[0], x[1], q, ok)
			}
			if q, ok := point.Move(x[0], x[1]); q != 0 || ok || !plain(q) {
				t.Errorf("P1.1: Move(%v, %v): %v, %v", x[0], x[1], q, ok)
			}
		}
	}
}

func TestP1_1All(t *testing.T) {
	ps := []complex128{3 + 4i, 0, -2, 99}[:3]
	got, ok := point.All(ps, -1i)
	if !ok || !slices.Equal(got, []complex128{4 - 3i, 0, 2i}) {
		t.Errorf("P1.1: All: %v, %v", got, ok)
	}
	for _, q := range got {
		if !plain(q) {
			t.Errorf("P1.1: All has a nought that is not +0: %v", got)
		}
	}
	if !slices.Equal(ps[:4], []complex128{3 + 4i, 0, -2, 99}) {
		t.Errorf("R4: All changed its argument: %v", ps[:4])
	}
	got[0] = 77
	if ps[0] != 3+4i {
		t.Error("R4: All shares memory with its argument")
	}
	for _, x := range []struct {
		ps []complex128
		by complex128
	}{{[]complex128{1, 32767}, 2}, {[]complex128{32767, 1}, 2}, {[]complex128{1, 0.5}, 1}, {[]complex128{1}, 0.5}, {[]complex128{1, 2, complex(nan, 0)}, 1}} {
		if got, ok := point.All(x.ps, x.by); ok || len(got) != 0 {
			t.Errorf("P1.1: All(%v, %v): %v, %v", x.ps, x.by, got, ok)
		}
	}
	if got, ok := point.All(nil, 1); !ok || len(got) != 0 {
		t.Errorf("P1.1: All of none: %v, %v", got, ok)
	}
}

func TestP1_1Box(t *testing.T) {
	for _, x := range []struct {
		ps   []complex128
		a, b complex128
		ok   bool
	}{
		{[]complex128{7 + 8i}, 7 + 8i, 7 + 8i, true}, {[]complex128{3 - 4i, -1 + 2i, 0}, -1 - 4i, 3 + 2i, true}, {[]complex128{1 + 9i, 5 + 2i}, 1 + 2i, 5 + 9i, true},
		{[]complex128{-32768 + 32767i, 32767 - 32768i}, -32768 - 32768i, 32767 + 32767i, true}, {[]complex128{-5, -6, -7}, -7, -5, true},
		{nil, 0, 0, false}, {[]complex128{}, 0, 0, false}, {[]complex128{1, 2, 0.5}, 0, 0, false}, {[]complex128{32768, 1}, 0, 0, false}, {[]complex128{1, complex(0, minus)}, 0, 0, false},
	} {
		if a, b, ok := point.Box(x.ps); a != x.a || b != x.b || ok != x.ok || !plain(a) || !plain(b) {
			t.Errorf("P1.1: Box(%v): %v, %v, %v", x.ps, a, b, ok)
		}
	}
	for _, s := range strange() {
		for _, ps := range [][]complex128{{s}, {s, 1}, {1, s}} {
			if a, b, ok := point.Box(ps); a != 0 || b != 0 || ok {
				t.Errorf("P1.1: Box(%v): %v, %v, %v", ps, a, b, ok)
			}
		}
	}
}

func TestP1_1Len(t *testing.T) {
	for _, x := range []struct {
		a, b complex128
		want float64
	}{{0, 3 + 4i, 5}, {3 + 4i, 0, 5}, {-3 - 4i, 0, 5}, {1 + 1i, 1 + 1i, 0}, {0, 1 + 1i, math.Sqrt2}, {-32768 - 32768i, 32767 + 32767i, math.Sqrt(2 * 65535 * 65535)}, {-32768, 32767, 65535}, {2i, -5i, 7}} {
		if got := point.Len(x.a, x.b); got != x.want {
			t.Errorf("P1.1: Len(%v, %v): %v, not %v", x.a, x.b, got, x.want)
		}
	}
	for _, s := range strange() {
		if point.Len(s, 3) != 0 || point.Len(3, s) != 0 || point.Len(s, s) != 0 {
			t.Errorf("P1.1: Len of %v is not 0", s)
		}
	}
}
