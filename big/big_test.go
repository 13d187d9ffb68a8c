package big_test

import (
	"bytes"
	"testing"

	"jotter/big"
)

func TestThereAndBack(t *testing.T) {
	for _, x := range []struct {
		v, n int
		want []byte
	}{{0, 1, []byte{0}}, {258, 2, []byte{1, 2}}, {0x010203, 3, []byte{1, 2, 3}}, {1<<32 - 1, 4, []byte{255, 255, 255, 255}}, {7, 3, []byte{0, 0, 7}}} {
		if got := big.Append([]byte{9}, x.v, x.n); !bytes.Equal(got, append([]byte{9}, x.want...)) || big.Number(got[1:]) != x.v {
			t.Errorf("Append(%d, %d): %v", x.v, x.n, got)
		}
	}
	if got := big.Append(nil, -2, 2); !bytes.Equal(got, []byte{255, 254}) {
		t.Errorf("Append(-2, 2): %v", got)
	}
}
