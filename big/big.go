// Package big lays whole numbers into bytes, the highest byte first, and reads them.
package big

// Append lays the lowest n bytes of v behind b.
func Append(b []byte, v int, n int) []byte {
	for shift := 8 * (n - 1); shift >= 0; shift -= 8 {
		b = append(b, byte(v>>shift))
	}
	return b
}

// Number is what all of b's bytes make (of 7 at most, so it is never below 0).
func Number(b []byte) int {
	v := 0
	for _, x := range b {
		v = v<<8 | int(x)
	}
	return v
}
