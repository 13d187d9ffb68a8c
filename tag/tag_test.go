package tag_test

import (
	"bytes"
	"hash/crc32"
	"testing"

	"jotter/api"
	"jotter/tag"
)

func tags() []api.Tag {
	return []api.Tag{
		{Kind: api.KindData}, {Kind: api.KindTrim, Page: 65535, Seq: api.MaxSeq, Epoch: api.MaxEpoch}, {Kind: api.KindCommit, Seq: 1, Epoch: 2}, {Kind: api.KindData, Page: 258, Seq: 0x01020304, Epoch: 0x050607}, {Kind: api.KindCommit, Seq: api.MaxSeq, Epoch: api.MaxEpoch},
	}
}

func wrongTags() []api.Tag {
	return []api.Tag{
		{}, {Kind: 4}, {Kind: -1}, {Kind: 257}, {Kind: api.KindData, Page: -1}, {Kind: api.KindData, Page: 65536}, {Kind: api.KindCommit, Page: 1}, {Kind: api.KindCommit, Page: -1}, {Kind: api.KindTrim, Seq: -1}, {Kind: api.KindTrim, Seq: api.MaxSeq + 1},
		{Kind: api.KindData, Epoch: -1}, {Kind: api.KindData, Epoch: api.MaxEpoch + 1}, {Kind: api.KindTrim, Page: 1 << 62},
	}
}

func data(n int) []byte {
	b := make([]byte, n)
	for i := range b {
		b[i] = byte(7*i + n)
	}
	return b
}

// page lays a raw page as the chapter tells, whatever the tag is.
func page(b []byte, mark byte, t api.Tag, last byte) []byte {
	raw := append(bytes.Clone(b), mark, byte(t.Kind), byte(t.Page>>8), byte(t.Page), byte(t.Seq>>24), byte(t.Seq>>16), byte(t.Seq>>8), byte(t.Seq), byte(t.Epoch>>16), byte(t.Epoch>>8), byte(t.Epoch))
	sum := crc32.ChecksumIEEE(raw)
	return append(raw, byte(sum>>24), byte(sum>>16), byte(sum>>8), byte(sum), last)
}

func wantState(t *testing.T, what string, raw []byte, state int) {
	t.Helper()
	if b, x, s := tag.Read(raw); s != state || len(b) != 0 || x != (api.Tag{}) {
		t.Errorf("%s: Read(%v): %v, %v, %d", what, raw, b, x, s)
	}
}

func TestP8_1May(t *testing.T) {
	for _, x := range tags() {
		if !tag.May(x) {
			t.Errorf("P8.1: May(%v) is false", x)
		}
	}
	for _, x := range wrongTags() {
		if tag.May(x) {
			t.Errorf("P8.1: May(%v) is true", x)
		}
	}
}

func TestP8_1LayRead(t *testing.T) {
	for _, n := range []int{24, 25, 33, 63, 64} {
		for _, x := range tags() {
			b := data(n)
			raw, e := tag.Lay(b, x)
			if e != api.OK || !bytes.Equal(raw, page(b, 74, x, 0)) {
				t.Errorf("P8.1: Lay of %d bytes, %v: %v, %d", n, x, raw, e)
			}
			got, y, state := tag.Read(raw)
			if state != api.Valid || y != x || !bytes.Equal(got, b) {
				t.Errorf("P8.1: Read of Lay of %d bytes, %v: %v, %v, %d", n, x, got, y, state)
			}
			got[0]++
			if !bytes.Equal(raw, page(b, 74, x, 0)) || !bytes.Equal(b, data(n)) {
				t.Error("R4: Read's answer shares memory")
			}
			raw[0]++
			if !bytes.Equal(b, data(n)) {
				t.Error("R4: Lay's answer shares memory")
			}
		}
	}
}

func TestP8_1Wrong(t *testing.T) {
	for _, n := range []int{0, 1, 23, 65, 200} {
		if raw, e := tag.Lay(make([]byte, n), tags()[0]); e != api.ErrArg || len(raw) != 0 {
			t.Errorf("P8.1: Lay of %d bytes: %v, %d", n, raw, e)
		}
		wantState(t, "P8.1: data of too many or too few bytes", page(data(n), 74, tags()[3], 0), api.Torn)
	}
	for _, x := range wrongTags() {
		if raw, e := tag.Lay(data(32), x); e != api.ErrArg || len(raw) != 0 {
			t.Errorf("P8.1: Lay of %v: %v, %d", x, raw, e)
		}
	}
	for _, x := range []api.Tag{{}, {Kind: 4}, {Kind: 255}, {Kind: api.KindCommit, Page: 1}, {Kind: api.KindCommit, Page: 256}} {
		wantState(t, "P8.1: a tag that may not be", page(data(32), 74, x, 0), api.Torn)
	}
	wantState(t, "P8.1: no 74", page(data(32), 75, tags()[3], 0), api.Torn)
	wantState(t, "P8.1: no 0", page(data(32), 74, tags()[3], 1), api.Torn)
	wantState(t, "P8.1: no bytes", nil, api.Torn)
	raw := page(data(32), 74, tags()[3], 0)
	for i := range raw {
		for bit := range 8 {
			broken := bytes.Clone(raw)
			broken[i] ^= 1 << bit
			wantState(t, "P8.1: one bit is another", broken, api.Torn)
		}
	}
	wantState(t, "P8.1: one byte too many", append(bytes.Clone(raw), 0), api.Torn)
	wantState(t, "P8.1: one byte too few", raw[1:], api.Torn)
}

func TestP8_1Erased(t *testing.T) {
	for n := range 100 {
		state := api.Torn
		if n >= 40 && n <= 80 {
			state = api.Erased
		}
		b := bytes.Repeat([]byte{255}, n)
		wantState(t, "P8.1: bytes 255", b, state)
		if n > 0 {
			b[n-1] = 254
			wantState(t, "P8.1: bytes 255, but the last one", b, api.Torn)
			b[n-1], b[0] = 255, 0
			wantState(t, "P8.1: bytes 255, but the first one", b, api.Torn)
		}
	}
}

func TestP8_2Torn(t *testing.T) {
	for _, x := range append(tags(), api.Tag{Kind: api.KindData, Page: 65535, Seq: 1<<32 - 1, Epoch: 1<<24 - 1}) {
		for _, b := range [][]byte{data(24), data(64), bytes.Repeat([]byte{255}, 32), bytes.Repeat([]byte{74}, 40)} {
			whole, _ := tag.Lay(b, x)
			for n := range whole {
				torn := append(bytes.Clone(whole[:n]), bytes.Repeat([]byte{255}, len(whole)-n)...)
				if _, _, state := tag.Read(torn); state == api.Valid {
					t.Errorf("P8.2: the first %d bytes of %v are Valid", n, whole)
				}
			}
		}
	}
	for x := range 256 {
		for n := 40; n <= 80; n++ {
			if _, _, state := tag.Read(bytes.Repeat([]byte{byte(x)}, n)); state == api.Valid {
				t.Errorf("P8.2: %d bytes %d are Valid", n, x)
			}
		}
	}
}
