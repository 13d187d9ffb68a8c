package crc_test

import (
	"hash/crc32"
	"testing"

	"jotter/crc"
)

func TestP4_1Of(t *testing.T) {
	for _, x := range []struct {
		s    string
		want uint32
	}{{"", 0}, {"123456789", 0xCBF43926}, {"a", 0xE8B7BE43}, {"\x00", 0xD202EF8D}, {"\xff", 0xFF000000}, {"\xff\xff\xff\xff", 0xFFFFFFFF}} {
		if got := crc.Of([]byte(x.s)); got != x.want {
			t.Errorf("P4.1: Of(%q): %08x, not %08x", x.s, got, x.want)
		}
	}
	if crc.Of(nil) != 0 || crc.Of([]byte{}) != 0 {
		t.Error("P4.1: Of none is not 0")
	}
	b := []byte{}
	for i := range 300 {
		if got, want := crc.Of(b), crc32.ChecksumIEEE(b); got != want {
			t.Fatalf("P4.1: Of %d bytes: %08x, not %08x", len(b), got, want)
		}
		b = append(b, byte(i*i*7+i))
	}
}

func TestP4_1More(t *testing.T) {
	b := make([]byte, 100)
	for i := range b {
		b[i] = byte(i*37 + 5)
	}
	whole := crc.Of(b)
	for n := range len(b) + 1 {
		if got := crc.More(crc.Of(b[:n]), b[n:]); got != whole {
			t.Errorf("P4.1: More behind %d bytes: %08x, not %08x", n, got, whole)
		}
		if crc.More(0, b[:n]) != crc.Of(b[:n]) {
			t.Errorf("P4.1: More(0, ..) of %d bytes is not Of", n)
		}
	}
	for _, sum := range []uint32{0, 1, 0xCBF43926, 0xFFFFFFFF} {
		if crc.More(sum, nil) != sum {
			t.Errorf("P4.1: More(%08x, none) is not the same", sum)
		}
	}
}
