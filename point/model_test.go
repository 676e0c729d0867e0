package point

import (
	"math/big"
	"slices"
)

// The model: the chapter's words, in the numbers of big, with a division in each sum.

// spot is a pair of the model.
type spot struct {
	x, y *big.Int
}

// power2 answers 2^n and d.
func power2(n uint, d int64) *big.Int {
	v := new(big.Int).Lsh(big.NewInt(1), n)
	return v.Add(v, big.NewInt(d))
}

// prime answers p.
func prime() *big.Int {
	return power2(255, -19)
}

// beside answers p and d.
func beside(d int64) *big.Int {
	return new(big.Int).Add(prime(), big.NewInt(d))
}

// order answers L taken k times, and d.
func order(k, d int64) *big.Int {
	tail, _ := new(big.Int).SetString("27742317777372353535851937790883648493", 10)
	tail.Add(tail, power2(252, 0))
	tail.Mul(tail, big.NewInt(k))
	return tail.Add(tail, big.NewInt(d))
}

// bytes32 answers a number below 2^256 as bytes, little-endian.
func bytes32(v *big.Int) [32]byte {
	var b [32]byte
	v.FillBytes(b[:])
	slices.Reverse(b[:])
	return b
}

// value answers the number that the bytes are.
func value(a [32]byte) *big.Int {
	slices.Reverse(a[:])
	return new(big.Int).SetBytes(a[:])
}

func small(n int64) [32]byte {
	return bytes32(big.NewInt(n))
}

// full answers 32 bytes 255.
func full() [32]byte {
	return bytes32(power2(256, -1))
}

// signed answers the bytes of a number below 2^255, with the highest bit.
func signed(v *big.Int) [32]byte {
	b := bytes32(v)
	b[31] |= 128
	return b
}

// sample answers 32 bytes that differ from place to place and from seed to seed.
func sample(seed uint32) [32]byte {
	var b [32]byte
	x := seed*2654435761 + 12345
	for i := range b {
		x = x*1664525 + 1013904223
		b[i] = byte(x >> 24)
	}
	return b
}

// mod answers v modulo p.
func mod(v *big.Int) *big.Int {
	return v.Mod(v, prime())
}

func product(a, b *big.Int) *big.Int {
	return mod(new(big.Int).Mul(a, b))
}

// quotient answers a / b modulo p, for a b that isn't 0.
func quotient(a, b *big.Int) *big.Int {
	return product(a, new(big.Int).ModInverse(mod(new(big.Int).Set(b)), prime()))
}

// dOf answers -121665 / 121666.
func dOf() *big.Int {
	return quotient(big.NewInt(-121665), big.NewInt(121666))
}

// onCurve answers whether y^2 - x^2 = 1 + d x^2 y^2.
func onCurve(a spot) bool {
	xx, yy := product(a.x, a.x), product(a.y, a.y)
	left := mod(new(big.Int).Sub(yy, xx))
	right := new(big.Int).Mul(dOf(), product(xx, yy))
	return left.Cmp(mod(right.Add(right, big.NewInt(1)))) == 0
}

// sumOf answers the chapter's sum.
func sumOf(a, b spot) spot {
	one := big.NewInt(1)
	crossed := new(big.Int).Add(product(a.x, b.y), product(b.x, a.y))
	straight := new(big.Int).Add(product(a.y, b.y), product(a.x, b.x))
	rest := product(dOf(), product(product(a.x, b.x), product(a.y, b.y)))
	return spot{quotient(crossed, new(big.Int).Add(one, rest)), quotient(straight, new(big.Int).Sub(one, rest))}
}

// neutral answers (0, 1).
func neutral() spot {
	return spot{new(big.Int), big.NewInt(1)}
}

// takenTimes answers a taken n times: bit by bit, the lowest first.
func takenTimes(n *big.Int, a spot) spot {
	sum := neutral()
	for i := range n.BitLen() {
		if n.Bit(i) == 1 {
			sum = sumOf(sum, a)
		}
		a = sumOf(a, a)
	}
	return sum
}

// sent answers the bytes of a.
func sent(a spot) [32]byte {
	if a.x.Bit(0) == 1 {
		return signed(a.y)
	}
	return bytes32(a.y)
}

// spotOf answers the point that the bytes are, and whether they are one: it takes the root of x^2, and holds what it found to the words.
func spotOf(b [32]byte) (spot, bool) {
	y := value(b)
	y.SetBit(y, 255, 0)
	if y.Cmp(prime()) >= 0 {
		return spot{}, false
	}
	yy := product(y, y)
	xx := quotient(new(big.Int).Sub(yy, big.NewInt(1)), new(big.Int).Add(product(dOf(), yy), big.NewInt(1)))
	x := new(big.Int).ModSqrt(xx, prime())
	if x == nil {
		return spot{}, false
	}
	if x.Bit(0) != uint(b[31]>>7) {
		x = mod(x.Neg(x))
	}
	a := spot{x, y}
	return a, onCurve(a) && sent(a) == b
}

// points answers n points, most of the order 8 L, or 4 L, 2 L, L.
func points(seed uint32, n int) [][32]byte {
	var all [][32]byte
	for ; len(all) < n; seed++ {
		b := sample(seed)
		if _, found := spotOf(b); found {
			all = append(all, b)
		}
	}
	return all
}

// eight answers the eight points of small order: the multiples of one of order 8, Zero first.
func eight() [][32]byte {
	for _, b := range points(7000, 100) {
		a, _ := spotOf(b)
		a = takenTimes(order(1, 0), a)
		if sent(takenTimes(big.NewInt(4), a)) == small(1) {
			continue
		}
		all := [][32]byte{small(1)}
		for next := a; len(all) < 8; next = sumOf(next, a) {
			all = append(all, sent(next))
		}
		return all
	}
	return nil
}

// generator answers B of the model: y = 4 / 5, and the even x.
func generator() spot {
	a, _ := spotOf(bytes32(quotient(big.NewInt(4), big.NewInt(5))))
	return a
}

// edgeNumbers answers the numbers at which Mul's bits, or the orders, begin or end.
func edgeNumbers() [][32]byte {
	all := [][32]byte{full(), bytes32(power2(256, -2))}
	for n := int64(0); n <= 9; n++ {
		all = append(all, small(n))
	}
	for _, k := range []int64{1, 2, 4, 8, 15} {
		for d := int64(-1); d <= 1; d++ {
			all = append(all, bytes32(order(k, d)))
		}
	}
	for _, n := range []uint{8, 16, 63, 64, 127, 128, 247, 248, 252, 254, 255} {
		all = append(all, bytes32(power2(n, 0)), bytes32(power2(n, -1)))
	}
	return all
}
