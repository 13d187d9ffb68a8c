package name_test

import (
	"strings"
	"testing"

	"jotter/name"
)

func TestP3_1May(t *testing.T) {
	for _, s := range []string{"a", "a b", "a  b", "!", "~", "#x", "\u00a0", "\u00a0a", "ä", "日本", "\U0001F600", "-", "a\\b", strings.Repeat("x", 20), strings.Repeat("é", 10), "\ufffd", "0", "a.b", "\u2028"} {
		if !name.May(s) {
			t.Errorf("P3.1: May(%q) is false", s)
		}
	}
	for _, s := range []string{"", " ", " a", "a ", "  ", "a/b", "/", "\x00", "a\nb", "\t", "a\x1f", "\x7f", "a\u0080", "\u009f", "\u0085", "\xff", "a\xc3", "\xed\xa0\x80", "\xc0\x80", strings.Repeat("x", 21), strings.Repeat("é", 10) + "x", "\xf4\x90\x80\x80"} {
		if name.May(s) {
			t.Errorf("P3.1: May(%q) is true", s)
		}
	}
	for r := rune(0); r < 0x120; r++ {
		want := r >= 32 && (r < 127 || r > 159) && r != '/'
		if name.May("a"+string(r)+"b") != want {
			t.Errorf("P3.1: May of a name with rune %d is not %v", r, want)
		}
		if name.May(string(r)) != (want && r != ' ') {
			t.Errorf("P3.1: May of rune %d alone", r)
		}
	}
}

func TestP3_1Less(t *testing.T) {
	rising := []string{"", "\x00", " ", "A", "B", "a", "a ", "aa", "b", "z", "é", "\u0100", "日", "\ue000", "\U0001F600", "\xff"}
	for i, a := range rising {
		for j, b := range rising {
			if name.Less(a, b) != (i < j) {
				t.Errorf("P3.1: Less(%q, %q) is %v", a, b, name.Less(a, b))
			}
		}
	}
}

func TestP3_1Runes(t *testing.T) {
	for _, x := range []struct {
		s  string
		n  int
		ok bool
	}{{"", 0, true}, {"abc", 3, true}, {"é", 1, true}, {"日本", 2, true}, {"a\U0001F600", 2, true}, {"\ufffd", 1, true}, {"\x00", 1, true}, {"\xff", 0, false}, {"abc\xc3", 0, false}, {"\xed\xa0\x80", 0, false}, {strings.Repeat("é", 500), 500, true}} {
		if n, ok := name.Runes(x.s); n != x.n || ok != x.ok {
			t.Errorf("P3.1: Runes(%q): %d, %v", x.s, n, ok)
		}
	}
}
