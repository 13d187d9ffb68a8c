package raster_test

import (
	"math"
	"math/rand"
	"slices"
	"testing"

	"jotter/api"
	"jotter/raster"
)

func nan() complex128 { return complex(math.NaN(), 0) }

func strange() []complex128 {
	return []complex128{32768, -32769i, 0.5, 1 + 0.5i, complex(math.Copysign(0, -1), 0), nan(), complex(0, math.Inf(-1))}
}

func TestP25_1Dots(t *testing.T) {
	for _, x := range []struct {
		a, b complex128
		want []complex128
	}{
		{0, 3 + 1i, []complex128{0, 1, 2 + 1i, 3 + 1i}}, {3 + 1i, 0, []complex128{3 + 1i, 2 + 1i, 1, 0}}, {5 - 7i, 5 - 7i, []complex128{5 - 7i}}, {0, 1, []complex128{0, 1}}, {0, -1i, []complex128{0, -1i}},
		{0, 2 + 1i, []complex128{0, 1 + 1i, 2 + 1i}}, {0, 2 - 1i, []complex128{0, 1, 2 - 1i}}, {0, -2 - 1i, []complex128{0, -1, -2 - 1i}}, {0, -1 + 2i, []complex128{0, 1i, -1 + 2i}}, {0, 1 - 2i, []complex128{0, 1 - 1i, 1 - 2i}}, {2 + 1i, 0, []complex128{2 + 1i, 1 + 1i, 0}},
		{-3 - 3i, 0, []complex128{-3 - 3i, -2 - 2i, -1 - 1i, 0}}, {32767 - 32768i, 32765 - 32768i, []complex128{32767 - 32768i, 32766 - 32768i, 32765 - 32768i}}, {0, 4 + 3i, []complex128{0, 1 + 1i, 2 + 2i, 3 + 2i, 4 + 3i}}, {0, 4 - 3i, []complex128{0, 1 - 1i, 2 - 1i, 3 - 2i, 4 - 3i}},
	} {
		got, ok := raster.Dots(x.a, x.b)
		if !ok || !slices.Equal(got, x.want) {
			t.Errorf("P25.1: Dots(%v, %v): %v, %v, not %v", x.a, x.b, got, ok, x.want)
		}
		for _, p := range got {
			if real(p) == 0 && math.Signbit(real(p)) || imag(p) == 0 && math.Signbit(imag(p)) {
				t.Errorf("R2: Dots(%v, %v) has a nought that is not +0", x.a, x.b)
			}
		}
	}
	for _, x := range []struct {
		a, b complex128
		n    int
	}{{0, 1000, 1001}, {0, 1000 - 1000i, 1001}, {-500i, 500i, 1001}, {0, 1001, 0}, {0, -1001i, 0}, {-32768, 32767, 0}, {3, 3 + 1000i, 1001}, {1, 1 - 1001i, 0}} {
		got, ok := raster.Dots(x.a, x.b)
		if len(got) != x.n || ok != (x.n > 0) || ok && (got[0] != x.a || got[x.n-1] != x.b) {
			t.Errorf("P25.1: Dots(%v, %v): %d, %v", x.a, x.b, len(got), ok)
		}
	}
	for _, s := range strange() {
		for _, x := range [][2]complex128{{s, 0}, {0, s}, {s, s}} {
			if got, ok := raster.Dots(x[0], x[1]); ok || len(got) != 0 {
				t.Errorf("P25.1: Dots(%v, %v): %v, %v", x[0], x[1], got, ok)
			}
		}
	}
}

// nearest is a quotient rounded to the nearest whole number, a half to the greater one.
func nearest(a, b int) int { return int(math.Floor(float64(2*a+b) / float64(2*b))) }

func TestP25_1AllWays(t *testing.T) {
	for dx := -9; dx <= 9; dx++ {
		for dy := -9; dy <= 9; dy++ {
			n := max(dx, -dx, dy, -dy)
			got, ok := raster.Dots(7-3i, 7-3i+complex(float64(dx), float64(dy)))
			if !ok || len(got) != n+1 {
				t.Fatalf("P25.1: Dots: %v, %v", got, ok)
			}
			for k, p := range got {
				if k > 0 && p != 7-3i+complex(float64(nearest(k*dx, n)), float64(nearest(k*dy, n))) {
					t.Errorf("P25.1: Dots by %d, %d: %v", dx, dy, got)
				}
			}
		}
	}
}

func stroke(width int, ps ...complex128) api.Stroke {
	return api.Stroke{Pen: 1, Width: width, Points: ps}
}

// text shows a picture, a line a row.
func text(rows []uint64, w int) []string {
	lines := []string{}
	for _, row := range rows {
		line := ""
		for x := range 64 {
			if row>>x&1 == 1 {
				line += "#"
			} else if x < w {
				line += "."
			}
		}
		lines = append(lines, line)
	}
	return lines
}

func TestP25_2Draw(t *testing.T) {
	for _, x := range []struct {
		s     api.Sheet
		at    complex128
		scale int
		w     int
		want  []string
	}{
		{nil, 0, 1, 3, []string{"...", "..."}},
		{api.Sheet{stroke(1, 1+1i)}, 0, 1, 3, []string{"...", ".#.", "..."}},
		{api.Sheet{stroke(2, 1+1i)}, 0, 1, 4, []string{"....", ".##.", ".##.", "...."}},
		{api.Sheet{stroke(3, 1+1i)}, 0, 1, 4, []string{"###.", "###.", "###.", "...."}},
		{api.Sheet{stroke(4, 2+2i)}, 0, 1, 6, []string{"......", ".####.", ".####.", ".####.", ".####.", "......"}},
		{api.Sheet{stroke(9, 0)}, 0, 1, 6, []string{"#####.", "#####.", "#####.", "#####.", "#####.", "......"}},
		{api.Sheet{stroke(1, 0, 3+1i)}, 0, 1, 4, []string{"##..", "..##"}},
		{api.Sheet{stroke(1, 0, 3+1i)}, -1 - 1i, 1, 5, []string{".....", ".##..", "...##"}},
		{api.Sheet{stroke(1, 0, 3+1i)}, 1 + 1i, 1, 4, []string{".##.", "...."}},
		{api.Sheet{stroke(1, 0, 3+1i), stroke(1, 3i)}, 0, 1, 4, []string{"##..", "..##", "....", "#..."}},
		{api.Sheet{stroke(1, 0, 2, 2+2i, 2i, 0)}, 0, 1, 4, []string{"###.", "#.#.", "###.", "...."}},
		{api.Sheet{stroke(1, 0, 3), stroke(1, 1i), stroke(1, 3+1i)}, 0, 1, 4, []string{"####", "#..#"}},
		{api.Sheet{stroke(1, 9+9i, 0)}, 0, 5, 3, []string{"#..", ".#.", "..."}},
		{api.Sheet{stroke(1, 4, 5, -1, -5+1i, -6)}, -10, 5, 5, []string{"####."}},
		{api.Sheet{stroke(1, 4), stroke(1, -1), stroke(1, -6)}, -10, 5, 5, []string{"###.."}},
		{api.Sheet{stroke(1, -1-1i)}, 0, 64, 2, []string{"..", ".."}},
		{api.Sheet{stroke(2, -1-1i)}, 0, 64, 2, []string{"#.", ".."}},
		{api.Sheet{stroke(1, -100+1i, 100+1i)}, 0, 1, 3, []string{"...", "###", "..."}},
	} {
		rows, e := raster.Draw(x.s, x.at, x.scale, x.w, len(x.want))
		if got := text(rows, x.w); e != api.OK || !slices.Equal(got, x.want) {
			t.Errorf("P25.2: Draw(%v, %v, %d): %d, %q, not %q", x.s, x.at, x.scale, e, got, x.want)
		}
	}
}

func TestP25_2Errors(t *testing.T) {
	one := api.Sheet{stroke(1, 0)}
	for i, x := range []struct {
		s           api.Sheet
		at          complex128
		scale, w, h int
		want        api.Errno
	}{
		{one, 0, 1, 1, 1, api.OK}, {one, 0, 64, 64, 64, api.OK}, {one, 0, 0, 1, 1, api.ErrArg}, {one, 0, 65, 1, 1, api.ErrArg}, {one, 0, -1, 1, 1, api.ErrArg}, {one, 0, 1, 0, 1, api.ErrArg}, {one, 0, 1, 65, 1, api.ErrArg}, {one, 0, 1, 1, 0, api.ErrArg}, {one, 0, 1, 1, 65, api.ErrArg}, {one, 0, 1, -1 << 63, 1, api.ErrArg}, {one, 0, 1, 1, 1 << 62, api.ErrArg},
		{api.Sheet{stroke(0, 0)}, 0, 1, 1, 1, api.ErrArg}, {api.Sheet{stroke(10, 0)}, 0, 1, 1, 1, api.ErrArg}, {api.Sheet{stroke(1)}, 0, 1, 1, 1, api.ErrArg}, {api.Sheet{stroke(1, 0.5)}, 0, 1, 1, 1, api.ErrArg}, {one, 0.5, 1, 1, 1, api.ErrArg}, {one, nan(), 1, 1, 1, api.ErrArg}, {one, 40000, 1, 1, 1, api.ErrArg},
		{api.Sheet{stroke(1, 32767)}, -1, 1, 1, 1, api.ErrArg}, {api.Sheet{stroke(1, 32767)}, 0, 1, 1, 1, api.OK}, {api.Sheet{stroke(1, 32767)}, -1, 2, 1, 1, api.OK}, {api.Sheet{stroke(1, -32768)}, 1, 1, 1, 1, api.ErrArg}, {api.Sheet{stroke(1, 1, -32768i)}, 1i, 1, 1, 1, api.ErrArg}, {api.Sheet{stroke(1, 32767)}, -32768, 2, 1, 1, api.OK},
		{api.Sheet{stroke(1, 0, 1000)}, 0, 1, 1, 1, api.OK}, {api.Sheet{stroke(1, 0, 1001)}, 0, 1, 1, 1, api.ErrFull}, {api.Sheet{stroke(1, 0, 1001i)}, 0, 1, 1, 1, api.ErrFull}, {api.Sheet{stroke(1, 0, 2001)}, 0, 2, 1, 1, api.OK}, {api.Sheet{stroke(1, 0, 2002)}, 0, 2, 1, 1, api.ErrFull}, {api.Sheet{stroke(1, 0), stroke(1, 5000)}, 0, 1, 1, 1, api.OK},
		{api.Sheet{stroke(1, 0, 1001), stroke(1, 32767)}, -1, 1, 1, 1, api.ErrArg}, {api.Sheet{stroke(1, 0, 5, 1006), one[0]}, 0, 1, 1, 1, api.ErrFull}, {api.Sheet{one[0], one[0], one[0], one[0], one[0], one[0], one[0]}, 0, 1, 1, 1, api.ErrArg},
	} {
		rows, e := raster.Draw(x.s, x.at, x.scale, x.w, x.h)
		if e != x.want || e == api.OK && len(rows) != x.h || e != api.OK && len(rows) != 0 {
			t.Errorf("P25.2: Draw %d: %v, %d, not %d", i, rows, e, x.want)
		}
	}
}

// naive draws as the chapter tells, dot by dot.
func naive(s api.Sheet, at complex128, scale int, w, h int) []uint64 {
	rows := make([]uint64, h)
	place := func(p complex128) complex128 {
		return complex(math.Floor((real(p)-real(at))/float64(scale)), math.Floor((imag(p)-imag(at))/float64(scale)))
	}
	for _, x := range s {
		dots := []complex128{}
		for i, p := range x.Points {
			dots = append(dots, place(p))
			if i > 0 {
				more, _ := raster.Dots(place(x.Points[i-1]), place(p))
				dots = append(dots, more...)
			}
		}
		for _, d := range dots {
			for dy := -(x.Width - 1) / 2; dy <= x.Width/2; dy++ {
				for dx := -(x.Width - 1) / 2; dx <= x.Width/2; dx++ {
					px, py := int(real(d))+dx, int(imag(d))+dy
					if px >= 0 && px < w && py >= 0 && py < h {
						rows[py] |= 1 << px
					}
				}
			}
		}
	}
	return rows
}

func TestP25_2Random(t *testing.T) {
	for seed := range int64(400) {
		r := rand.New(rand.NewSource(seed))
		s := api.Sheet{}
		for range r.Intn(7) {
			x := stroke(1 + r.Intn(9))
			for range 1 + r.Intn(10) {
				x.Points = append(x.Points, complex(float64(r.Intn(300)-100), float64(r.Intn(300)-100)))
			}
			s = append(s, x)
		}
		at, scale, w, h := complex(float64(r.Intn(100)-50), float64(r.Intn(100)-50)), 1+r.Intn(9), 1+r.Intn(64), 1+r.Intn(64)
		rows, e := raster.Draw(s, at, scale, w, h)
		if want := naive(s, at, scale, w, h); e != api.OK || !slices.Equal(rows, want) {
			t.Errorf("P25.2: Draw of seed %d: %d, %q, not %q", seed, e, text(rows, w), text(want, w))
		}
		n := 0
		for _, row := range rows {
			for x := range 64 {
				n += int(row >> x & 1)
			}
		}
		if raster.Count(rows) != n {
			t.Errorf("P25.3: Count: %d, not %d", raster.Count(rows), n)
		}
	}
}

func TestP25_3Count(t *testing.T) {
	rows, _ := raster.Draw(api.Sheet{stroke(2, 5+5i)}, 0, 1, 20, 20)
	if raster.Count(rows) != 4 || raster.Count(nil) != 0 || raster.Count([]uint64{1<<64 - 1, 0, 1 << 63, 5}) != 67 {
		t.Error("P25.3: Count")
	}
}

func TestP25_3Turn(t *testing.T) {
	for _, x := range []struct {
		rows []uint64
		w    int
		want []uint64
	}{
		{[]uint64{0b011, 0b100}, 3, []uint64{0b10, 0b10, 0b01}}, {[]uint64{1}, 1, []uint64{1}}, {nil, 2, []uint64{0, 0}}, {[]uint64{0b111, 0, 1 << 63}, 2, []uint64{0b100, 0b100}}, {[]uint64{1 << 63}, 64, append(make([]uint64, 63), 1)}, {[]uint64{0, 0, 1}, 1, []uint64{1}},
		{[]uint64{1}, 0, nil}, {[]uint64{1}, 65, nil}, {[]uint64{1}, -1, nil}, {make([]uint64, 65), 3, nil},
	} {
		before := slices.Clone(x.rows)
		if got := raster.Turn(x.rows, x.w); !slices.Equal(got, x.want) {
			t.Errorf("P25.3: Turn(%b, %d): %b, not %b", x.rows, x.w, got, x.want)
		}
		if !slices.Equal(before, x.rows) {
			t.Error("R4: Turn changed its rows")
		}
	}
	rows := make([]uint64, 64)
	for y := range rows {
		rows[y] = uint64(y*y*2654435761 + y)
	}
	turned := rows
	for i := range 4 {
		if i > 0 && slices.Equal(turned, rows) {
			t.Errorf("P25.3: turned %d times it is the same", i)
		}
		before := turned
		turned = raster.Turn(turned, 64)
		for y := range 64 {
			for x := range 64 {
				if turned[x]>>(63-y)&1 != before[y]>>x&1 {
					t.Fatalf("P25.3: Turn: dot %d, %d", x, y)
				}
			}
		}
	}
	if !slices.Equal(turned, rows) {
		t.Error("P25.3: turned four times it is another one")
	}
}

func TestP25_3Box(t *testing.T) {
	for _, x := range []struct {
		rows       []uint64
		a, b, c, d int
		ok         bool
	}{
		{nil, 0, 0, 0, 0, false}, {make([]uint64, 9), 0, 0, 0, 0, false}, {[]uint64{1}, 0, 0, 0, 0, true}, {[]uint64{0, 0b1100, 0, 0b10}, 1, 1, 3, 3, true}, {[]uint64{0, 1 << 63}, 63, 1, 63, 1, true}, {[]uint64{1 << 63, 1}, 0, 0, 63, 1, true}, {append(make([]uint64, 100), 0b110), 1, 100, 2, 100, true}, {[]uint64{0b100, 0, 0}, 2, 0, 2, 0, true},
	} {
		if a, b, c, d, ok := raster.Box(x.rows); a != x.a || b != x.b || c != x.c || d != x.d || ok != x.ok {
			t.Errorf("P25.3: Box(%b): %d, %d, %d, %d, %v", x.rows, a, b, c, d, ok)
		}
	}
}
