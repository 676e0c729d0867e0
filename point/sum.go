package point

import (
	"postilion/field"
)

// A place is a point to which others are added: (x / z, y / z), and t is x y / z. So no sum needs a division; z is never 0.
type place struct {
	x, y, z, t [32]byte
}

// A step is a point as it is added to a place: y - x, y + x, and 2 d x y.
type step struct {
	less, more, both [32]byte
}

func placeOf(a pair) place {
	return place{a.x, a.y, one(), field.Mul(a.x, a.y)}
}

func stepOf(a pair) step {
	both := field.Mul(d(), field.Mul(a.x, a.y))
	return step{field.Sub(a.y, a.x), field.Add(a.y, a.x), field.Add(both, both)}
}

// plus answers the sum. It holds for all points, the same one twice and the neutral one too: as d is no square, no divisor of the curve's sum is ever 0.
func plus(a place, b step) place {
	less := field.Mul(field.Sub(a.y, a.x), b.less)
	more := field.Mul(field.Add(a.y, a.x), b.more)
	both := field.Mul(a.t, b.both)
	z := field.Add(a.z, a.z)
	return placeAt(field.Sub(more, less), field.Sub(z, both), field.Add(z, both), field.Add(more, less))
}

// twice answers the sum of a and a, by fewer products than plus.
func twice(a place) place {
	xx, yy, zz := field.Mul(a.x, a.x), field.Mul(a.y, a.y), field.Mul(a.z, a.z)
	sides := field.Add(a.x, a.y)
	sum, difference := field.Add(xx, yy), field.Sub(xx, yy)
	return placeAt(field.Sub(sum, field.Mul(sides, sides)), field.Add(field.Add(zz, zz), difference), difference, sum)
}

// placeAt answers the place of the point (e / g, h / f).
func placeAt(e, f, g, h [32]byte) place {
	return place{field.Mul(e, f), field.Mul(g, h), field.Mul(f, g), field.Mul(e, h)}
}

// times answers b taken n times.
func times(n [32]byte, b step) place {
	sum := placeOf(pair{y: one()})
	for i := 255; i >= 0; i-- {
		bit := n[i/8] >> (i % 8) & 1
		sum = plus(twice(sum), stepIf(bit, b))
	}
	return sum
}

// stepIf answers b, if the bit is 1, and the step of the neutral point, if it is 0: by a mask and no branch, as n may be a secret.
func stepIf(bit byte, b step) step {
	mask := -bit
	for i := range 32 {
		b.less[i] &= mask
		b.more[i] &= mask
		b.both[i] &= mask
	}
	b.less[0] |= 1 - bit
	b.more[0] |= 1 - bit
	return b
}
