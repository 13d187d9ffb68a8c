// Package point reckons with points: complex numbers of whole parts.
package point

import (
	"math"

	"jotter/api"
)

// May tells whether p may be a point.
func May(p complex128) bool {
	return mayPart(real(p)) && mayPart(imag(p))
}

func mayPart(x float64) bool {
	// -0 compares equal to 0, so only its sign tells it.
	if x == 0 {
		return !math.Signbit(x)
	}
	return x >= api.MinPoint && x <= api.MaxPoint && x == math.Trunc(x)
}

// Turn is the product of two points, if that is a point, too.
func Turn(p complex128, by complex128) (complex128, bool) {
	if !May(p) || !May(by) {
		return 0, false
	}
	return settle(p * by)
}

// Move is the sum of two points, if that is a point, too.
func Move(p complex128, by complex128) (complex128, bool) {
	if !May(p) || !May(by) {
		return 0, false
	}
	return settle(p + by)
}

// settle makes all noughts +0: a product such as 0 * -5 has -0, which a point must not have.
func settle(p complex128) (complex128, bool) {
	q := complex(plain(real(p)), plain(imag(p)))
	if !May(q) {
		return 0, false
	}
	return q, true
}

func plain(x float64) float64 {
	if x == 0 {
		return 0
	}
	return x
}

// All turns each point; it is all of them or none.
func All(ps []complex128, by complex128) ([]complex128, bool) {
	turned := make([]complex128, 0, len(ps))
	for _, p := range ps {
		q, ok := Turn(p, by)
		if !ok {
			return nil, false
		}
		turned = append(turned, q)
	}
	return turned, true
}

// Box is the least and the greatest corner of the points.
func Box(ps []complex128) (complex128, complex128, bool) {
	if len(ps) == 0 {
		return 0, 0, false
	}
	least, greatest := ps[0], ps[0]
	for _, p := range ps {
		if !May(p) {
			return 0, 0, false
		}
		least = complex(min(real(least), real(p)), min(imag(least), imag(p)))
		greatest = complex(max(real(greatest), real(p)), max(imag(greatest), imag(p)))
	}
	return least, greatest, true
}

// Len is the distance of two points.
func Len(a complex128, b complex128) float64 {
	if !May(a) || !May(b) {
		return 0
	}
	d := a - b
	// The squares are below 2^33, so their sum is exact ahead of the root.
	return math.Sqrt(real(d)*real(d) + imag(d)*imag(d))
}
