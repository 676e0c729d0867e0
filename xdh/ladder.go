package xdh

import (
	"postilion/field"
)

// A place is a point's u, as x / z: so no sum needs a division. z is 0 for the neutral point.
type place struct {
	x, z [32]byte
}

// product answers the u of the point with this u, taken n times, n even and below 2^255; 0, if that is the neutral one.
func product(n, u [32]byte) [32]byte {
	// low is the point taken as often as the bits that are done say, and high is that and the point once more: so their difference is known, and u alone tells their sum, on the curve and on its twist.
	low, high := place{x: [32]byte{1}}, place{u, [32]byte{1}}
	swapped := byte(0)
	for i := 254; i >= 0; i-- {
		bit := n[i/8] >> (i % 8) & 1
		low, high = swapIf(swapped^bit, low, high)
		low, high = twice(low), plus(low, high, u)
		swapped = bit
	}
	// n is even, so the last bit left them as they are. The inverse of 0 is 0, and so is the answer for the neutral point; where u is 0, every z is 0 from the first sum on, and the answer is 0 as it has to be: that point is of order 2.
	return field.Mul(low.x, field.Inv(low.z))
}

// plus answers the sum of a and b, whose difference has this u.
func plus(a, b place, u [32]byte) place {
	one := field.Mul(field.Add(a.x, a.z), field.Sub(b.x, b.z))
	two := field.Mul(field.Sub(a.x, a.z), field.Add(b.x, b.z))
	return place{square(field.Add(one, two)), field.Mul(u, square(field.Sub(one, two)))}
}

// twice answers the sum of a and a.
func twice(a place) place {
	more, less := square(field.Add(a.x, a.z)), square(field.Sub(a.x, a.z))
	both := field.Sub(more, less)
	return place{field.Mul(more, less), field.Mul(both, field.Add(more, field.Mul(factor(), both)))}
}

func square(a [32]byte) [32]byte {
	return field.Mul(a, a)
}

// factor answers 121665: (486662 - 2) / 4, from the curve's equation.
func factor() [32]byte {
	return [32]byte{65, 219, 1}
}

// swapIf answers a and b, in each other's place, if the bit is 1: by a mask and no branch, as the bit is a secret's.
func swapIf(bit byte, a, b place) (place, place) {
	mask := -bit
	for i := range 32 {
		x, z := mask&(a.x[i]^b.x[i]), mask&(a.z[i]^b.z[i])
		a.x[i] ^= x
		b.x[i] ^= x
		a.z[i] ^= z
		b.z[i] ^= z
	}
	return a, b
}
