package stroke_test

import (
	"bytes"
	"math"
	"slices"
	"testing"

	"jotter/api"
	"jotter/stroke"
)

func points(n int) []complex128 {
	ps := make([]complex128, n)
	for i := range ps {
		ps[i] = complex(float64(i), float64(-i-1))
	}
	return ps
}

func sheet(n int) api.Sheet {
	s := api.Sheet{}
	for i := range n {
		s = append(s, api.Stroke{Pen: i % 8, Width: 1 + i%9, Points: points(1 + i%10)})
	}
	return s
}

func one(pen int, width int, ps ...complex128) api.Sheet {
	return api.Sheet{{Pen: pen, Width: width, Points: ps}}
}

func wrongSheets() []api.Sheet {
	nan := complex(math.NaN(), 0)
	return []api.Sheet{
		one(-1, 1, 0), one(8, 1, 0), one(0, 0, 0), one(0, 10, 0), one(0, -1, 0), one(0, 1), one(0, 1, points(11)...), one(0, 1, 32768), one(0, 1, 0, 0.5), one(0, 1, nan),
		one(0, 1, complex(math.Copysign(0, -1), 0)), sheet(7), {{Width: 1, Points: points(1)}, {Width: 1}}, one(1<<60, 1, 0), one(0, 1+256, 0), one(16, 1, 0), one(0, 1, 0, -32769i),
	}
}

func rightSheets() []api.Sheet {
	return []api.Sheet{nil, {}, one(0, 1, 0), one(7, 9, 32767-32768i), one(3, 5, points(10)...), sheet(1), sheet(6), one(0, 1, -32768+32767i, 1i, -1, 255, 256, -256i)}
}

func TestP2_1May(t *testing.T) {
	for i, s := range rightSheets() {
		if !stroke.May(s) {
			t.Errorf("P2.1: May of right sheet %d is false", i)
		}
	}
	for i, s := range wrongSheets() {
		if stroke.May(s) {
			t.Errorf("P2.1: May of wrong sheet %d is true", i)
		}
	}
}

func TestP2_1Lay(t *testing.T) {
	for _, x := range []struct {
		s    api.Sheet
		want []byte
	}{
		{nil, []byte{0}},
		{one(2, 3, 1-1i), []byte{1, 35, 1, 0, 1, 255, 255}},
		{api.Sheet{{Pen: 7, Width: 9, Points: []complex128{32767 - 32768i, 258}}, {Pen: 0, Width: 1, Points: []complex128{0}}}, []byte{2, 121, 2, 127, 255, 128, 0, 1, 2, 0, 0, 1, 1, 0, 0, 0, 0}},
	} {
		b, e := stroke.Lay(x.s)
		if e != api.OK || !bytes.Equal(b, x.want) {
			t.Errorf("P2.1: Lay(%v): %v, %v", x.s, b, e)
		}
	}
	for i, s := range wrongSheets() {
		if b, e := stroke.Lay(s); e != api.ErrArg || len(b) != 0 {
			t.Errorf("P2.1: Lay of wrong sheet %d: %v, %v", i, b, e)
		}
	}
}

func TestP2_1ThereAndBack(t *testing.T) {
	for i, s := range rightSheets() {
		b, e := stroke.Lay(s)
		if e != api.OK || stroke.Size(s) != len(b) {
			t.Fatalf("P2.1: Lay of right sheet %d: %v, Size %d of %d", i, e, stroke.Size(s), len(b))
		}
		r, e := stroke.Read(b)
		if e != api.OK || !stroke.Same(r, s) {
			t.Errorf("P2.1: Read of Lay of right sheet %d: %v, %v", i, r, e)
		}
		for n := range b {
			if r, e := stroke.Read(b[:n]); e != api.ErrForm || len(r) != 0 {
				t.Errorf("P2.1: Read of %d of %d bytes: %v, %v", n, len(b), r, e)
			}
		}
		if r, e := stroke.Read(append(b, 0)); e != api.ErrForm || len(r) != 0 {
			t.Errorf("P2.1: Read of a byte too many: %v, %v", r, e)
		}
	}
	for i, s := range wrongSheets() {
		if stroke.Size(s) != 0 {
			t.Errorf("P2.1: Size of wrong sheet %d is not 0", i)
		}
	}
}

func TestP2_1ReadWrong(t *testing.T) {
	full := append([]byte{1, 1, 11}, make([]byte, 44)...)
	seven := []byte{7}
	for range 7 {
		seven = append(seven, 1, 1, 0, 0, 0, 0)
	}
	for _, b := range [][]byte{
		nil, {}, {1}, {1, 1}, {1, 1, 0}, {1, 0, 1, 0, 0, 0, 0}, {1, 10, 1, 0, 0, 0, 0}, {1, 15, 1, 0, 0, 0, 0}, {1, 128 + 1, 1, 0, 0, 0, 0}, {1, 255, 1, 0, 0, 0, 0},
		{0, 0}, {255}, full, seven, {1, 1, 255, 0, 0, 0, 0}, {2, 1, 1, 0, 0, 0, 0},
	} {
		if s, e := stroke.Read(b); e != api.ErrForm || len(s) != 0 {
			t.Errorf("P2.1: Read(%v): %v, %v", b, s, e)
		}
	}
	if s, e := stroke.Read([]byte{1, 113, 1, 0, 0, 0, 0}); e != api.OK || !stroke.Same(s, one(7, 1, 0)) || math.Signbit(real(s[0].Points[0])) {
		t.Errorf("P2.1: Read: %v, %v", s, e)
	}
}

func TestP2_1Turn(t *testing.T) {
	s := api.Sheet{{Pen: 1, Width: 2, Points: []complex128{3 + 4i, 0}}, {Pen: 3, Width: 4, Points: []complex128{-1i}}}
	got, e := stroke.Turn(s, 1i)
	want := api.Sheet{{Pen: 1, Width: 2, Points: []complex128{-4 + 3i, 0}}, {Pen: 3, Width: 4, Points: []complex128{1}}}
	if e != api.OK || !stroke.Same(got, want) || !stroke.May(got) {
		t.Errorf("P2.1: Turn: %v, %v", got, e)
	}
	if s[0].Points[0] != 3+4i {
		t.Error("R4: Turn changed its argument")
	}
	got[0].Points[0] = 9
	if s[0].Points[0] != 3+4i {
		t.Error("R4: Turn shares memory with its argument")
	}
	for range 3 {
		want, e = stroke.Turn(want, 1i)
	}
	if e != api.OK || !stroke.Same(want, s) {
		t.Errorf("P2.1: Turn by i four times: %v, %v", want, e)
	}
	for _, x := range []struct {
		s  api.Sheet
		by complex128
	}{{one(1, 1, 1, 20000), 2}, {one(1, 1, 1), 0.5}, {one(1, 1, -32768), -1}, {one(1, 1, 0), complex(0, math.NaN())}} {
		if got, e := stroke.Turn(x.s, x.by); e != api.ErrArg || len(got) != 0 {
			t.Errorf("P2.1: Turn(%v, %v): %v, %v", x.s, x.by, got, e)
		}
	}
	for i, s := range wrongSheets() {
		if got, e := stroke.Turn(s, 1); e != api.ErrArg || len(got) != 0 {
			t.Errorf("P2.1: Turn of wrong sheet %d: %v, %v", i, got, e)
		}
	}
	if got, e := stroke.Turn(nil, 0.5); e != api.OK || len(got) != 0 {
		t.Errorf("P2.1: Turn of no stroke: %v, %v", got, e)
	}
}

func TestP2_1Same(t *testing.T) {
	for i, a := range rightSheets() {
		if b, e := stroke.Turn(a, 1); e != api.OK || !stroke.Same(a, b) {
			t.Errorf("P2.1: Same of right sheet %d and its copy", i)
		}
	}
	a := api.Sheet{{Pen: 1, Width: 2, Points: []complex128{1, 2}}, {Pen: 3, Width: 4, Points: []complex128{3}}}
	for _, b := range []api.Sheet{
		nil, a[:1], a[1:], {a[1], a[0]}, {a[0], a[1], a[1]},
		{{Pen: 2, Width: 2, Points: a[0].Points}, a[1]}, {{Pen: 1, Width: 3, Points: a[0].Points}, a[1]},
		{{Pen: 1, Width: 2, Points: []complex128{1}}, a[1]}, {{Pen: 1, Width: 2, Points: []complex128{2, 1}}, a[1]}, {{Pen: 1, Width: 2, Points: []complex128{1, 2i}}, a[1]},
	} {
		if stroke.Same(a, b) || stroke.Same(b, a) {
			t.Errorf("P2.1: Same(%v, %v)", a, b)
		}
	}
	if nan := one(1, 1, complex(math.NaN(), 0)); stroke.Same(nan, nan) || !stroke.Same(one(99, 0, complex(math.Copysign(0, -1), 0)), one(99, 0, 0)) || !stroke.Same(nil, api.Sheet{}) {
		t.Error("P2.1: Same is not by ==")
	}
}

func TestR4OfRead(t *testing.T) {
	b := []byte{2, 1, 1, 0, 1, 0, 1, 1, 1, 0, 2, 0, 2, 77, 78}
	s, e := stroke.Read(b[:13])
	if e != api.OK || !slices.Equal(b[13:], []byte{77, 78}) {
		t.Fatalf("P2.1: Read: %v, %v", s, e)
	}
	_ = append(s[0].Points, 5)
	b[4] = 9
	if s[0].Points[0] != 1+1i || s[1].Points[0] != 2+2i {
		t.Errorf("R4: Read's answer shares memory: %v", s)
	}
}
