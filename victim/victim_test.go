package victim_test

import (
	"testing"

	"jotter/victim"
)

const (
	y = true
	n = false
)

func TestP12_1Pick(t *testing.T) {
	for _, x := range []struct {
		live, ws []int
		may      []bool
		want     int
	}{
		{[]int{3, 1, 1}, []int{0, 5, 2}, []bool{y, y, y}, 2},
		{nil, nil, nil, -1}, {[]int{1}, []int{1}, nil, -1}, {[]int{1}, nil, []bool{y}, -1}, {nil, []int{1}, []bool{y}, -1}, {[]int{1, 2}, []int{1, 2}, []bool{n, n}, -1},
		{[]int{4}, []int{9}, []bool{y}, 0}, {[]int{4, 4, 4}, []int{9, 9, 9}, []bool{y, y, y}, 0}, {[]int{4, 4, 4}, []int{9, 8, 8}, []bool{y, y, y}, 1}, {[]int{4, 4, 4}, []int{9, 8, 7}, []bool{y, y, n}, 1},
		{[]int{2, 1, 0}, []int{0, 0, 99}, []bool{y, y, y}, 2}, {[]int{2, 1, 0}, []int{0, 0, 99}, []bool{y, y}, 1}, {[]int{2, 1, 0}, []int{0}, []bool{y, y, y}, 0}, {[]int{2}, []int{0, 1, 2}, []bool{n, y, y}, -1},
		{[]int{5, 0, 5}, []int{1, 0, 0}, []bool{y, n, y}, 2},
	} {
		if got := victim.Pick(x.live, x.ws, x.may); got != x.want {
			t.Errorf("P12.1: Pick(%v, %v, %v): %d, not %d", x.live, x.ws, x.may, got, x.want)
		}
	}
}

func TestP12_1Free(t *testing.T) {
	for _, x := range []struct {
		ws   []int
		may  []bool
		want int
	}{
		{nil, nil, -1}, {[]int{1}, nil, -1}, {nil, []bool{y}, -1}, {[]int{1, 1}, []bool{n, n}, -1}, {[]int{4, 3, 3}, []bool{y, y, y}, 1}, {[]int{4, 3, 3}, []bool{y, n, y}, 2}, {[]int{4, 3, 1}, []bool{y, y}, 1}, {[]int{4}, []bool{y, y}, 0}, {[]int{0, 9}, []bool{n, y}, 1},
	} {
		if got := victim.Free(x.ws, x.may); got != x.want {
			t.Errorf("P12.1: Free(%v, %v): %d, not %d", x.ws, x.may, got, x.want)
		}
	}
}

func TestP12_1Cold(t *testing.T) {
	for _, x := range []struct {
		live, ws []int
		may      []bool
		trigger  int
		want     int
	}{
		{[]int{1, 1, 1}, []int{3, 0, 9}, []bool{y, y, y}, 8, 1}, {[]int{1, 1, 1}, []int{3, 0, 9}, []bool{y, y, y}, 9, -1}, {[]int{1, 0, 1}, []int{3, 0, 9}, []bool{y, y, y}, 2, -1}, {[]int{1, 0, 1}, []int{3, 0, 9}, []bool{y, n, y}, 5, 0}, {[]int{1, 0, 1}, []int{3, 0, 9}, []bool{y, n, y}, 6, -1},
		{[]int{1, 1, 1}, []int{0, 0, 9}, []bool{y, y, y}, 2, 0}, {[]int{0, 1, 1}, []int{0, 0, 9}, []bool{y, y, y}, 2, -1}, {[]int{1, 1}, []int{3, 2, 99}, []bool{y, y, y}, 2, -1}, {[]int{1, 1, 1}, []int{3, 2, 99}, []bool{y, y}, 2, -1}, {[]int{1, 1, 1}, []int{3, 0}, []bool{y, y, y}, 2, 1},
		{nil, nil, nil, 0, -1}, {nil, nil, nil, -1, -1}, {[]int{5}, []int{5}, []bool{y}, 0, -1}, {[]int{5}, []int{5}, []bool{y}, -1, 0}, {nil, []int{0, 9}, []bool{y, y}, 2, -1}, {[]int{4, 4}, []int{0, 9}, []bool{n, n}, 2, -1},
	} {
		if got := victim.Cold(x.live, x.ws, x.may, x.trigger); got != x.want {
			t.Errorf("P12.1: Cold(%v, %v, %v, %d): %d, not %d", x.live, x.ws, x.may, x.trigger, got, x.want)
		}
	}
}
