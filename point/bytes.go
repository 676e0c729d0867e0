package point

import (
	"postilion/api"
	"postilion/field"
)

// A pair is a point of the curve: two canonical numbers.
type pair struct {
	x, y [32]byte
}

// The last byte of a point has signBit, if x is odd; y needs no more than the other bits.
const signBit = 128

// one answers the number 1.
func one() [32]byte {
	return [32]byte{1}
}

// d answers the curve's d.
func d() [32]byte {
	return [32]byte{
		163, 120, 89, 19, 202, 77, 235, 117, 171, 216, 65, 65, 77, 10, 112, 0,
		152, 232, 121, 119, 121, 64, 199, 140, 115, 254, 111, 43, 238, 108, 3, 82,
	}
}

// read answers the point that the bytes are; ErrForm, if they are none.
func read(p [32]byte) (pair, api.Errno) {
	odd := p[31]&signBit != 0
	y := p
	y[31] &^= signBit
	if !field.Canonical(y) {
		return pair{}, api.ErrForm
	}
	x, e := field.Sqrt(squareAt(y))
	if e != api.OK {
		return pair{}, api.ErrForm
	}
	if !odd {
		return pair{x, y}, api.OK
	}
	if x == [32]byte{} {
		return pair{}, api.ErrForm
	}
	return pair{field.Sub([32]byte{}, x), y}, api.OK
}

// squareAt answers what x^2 is, if the curve has an x at y: (y^2 - 1) / (d y^2 + 1).
func squareAt(y [32]byte) [32]byte {
	yy := field.Mul(y, y)
	// The divisor is never 0: p - 1 is a square and d is none, so (p - 1) / d, which y^2 would be then, is none.
	return field.Mul(field.Sub(yy, one()), field.Inv(field.Add(field.Mul(d(), yy), one())))
}

// bytesOf answers the bytes of a point.
func bytesOf(a place) [32]byte {
	inverse := field.Inv(a.z)
	x, p := field.Mul(a.x, inverse), field.Mul(a.y, inverse)
	p[31] |= x[0] << 7
	return p
}
