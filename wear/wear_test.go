package wear_test

import (
	"testing"

	"jotter/wear"
)

const (
	y = true
	n = false
)

func TestP11_1(t *testing.T) {
	for _, x := range []struct {
		ws                  []int
		good                []bool
		spread, least, most int
	}{
		{[]int{3, 9, 5}, []bool{y, n, y}, 2, 0, 2},
		{nil, nil, 0, -1, -1}, {[]int{3}, nil, 0, -1, -1}, {nil, []bool{y}, 0, -1, -1}, {[]int{3, 4}, []bool{n, n}, 0, -1, -1},
		{[]int{7}, []bool{y}, 0, 0, 0}, {[]int{1, 7, 9}, []bool{n, y, n}, 0, 1, 1},
		{[]int{5, 5, 5}, []bool{y, y, y}, 0, 0, 0}, {[]int{9, 2, 2, 9}, []bool{y, y, y, y}, 7, 1, 0}, {[]int{1, 2, 3, 0}, []bool{y, y, y}, 2, 0, 2}, {[]int{1, 2}, []bool{y, y, y, y}, 1, 0, 1},
		{[]int{0, 1 << 30}, []bool{y, y}, 1 << 30, 0, 1}, {[]int{0, 4, 9, 4, 9}, []bool{n, y, y, y, y}, 5, 1, 2}, {[]int{0, 0, 3, 5, 99}, []bool{n, n, y, y, n}, 2, 2, 3},
	} {
		if s, a, b := wear.Spread(x.ws, x.good), wear.Least(x.ws, x.good), wear.Most(x.ws, x.good); s != x.spread || a != x.least || b != x.most {
			t.Errorf("P11.1: of %v, %v: Spread %d, Least %d, Most %d", x.ws, x.good, s, a, b)
		}
		for _, trigger := range []int{-1, 0, 1, x.spread - 1, x.spread, x.spread + 1} {
			if got := wear.Due(x.ws, x.good, trigger); got != (x.spread > trigger) {
				t.Errorf("P11.1: Due(%v, %v, %d): %v", x.ws, x.good, trigger, got)
			}
		}
	}
}
