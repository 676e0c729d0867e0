package scalar

import (
	"math/bits"
)

// A number is four words of 64 bits, the lowest first: in fields, as the compiler keeps fields in registers, and arrays not.
type number struct {
	w0, w1, w2, w3 uint64
}

// L is 2^252 and these two words.
const (
	order0 = 0x5812631a5cf5d3ed
	order1 = 0x14def9dea2f79cd6
)

// read answers the number that the bytes are.
func read(b [32]byte) number {
	return number{word(b[0:8]), word(b[8:16]), word(b[16:24]), word(b[24:32])}
}

// bytesOf answers the bytes of n.
func bytesOf(n number) [32]byte {
	var b [32]byte
	putWord(b[0:8], n.w0)
	putWord(b[8:16], n.w1)
	putWord(b[16:24], n.w2)
	putWord(b[24:32], n.w3)
	return b
}

// word answers the number that eight bytes are.
func word(b []byte) uint64 {
	return uint64(b[0]) | uint64(b[1])<<8 | uint64(b[2])<<16 | uint64(b[3])<<24 |
		uint64(b[4])<<32 | uint64(b[5])<<40 | uint64(b[6])<<48 | uint64(b[7])<<56
}

// putWord writes the eight bytes of w.
func putWord(b []byte, w uint64) {
	b[0], b[1], b[2], b[3] = byte(w), byte(w>>8), byte(w>>16), byte(w>>24)
	b[4], b[5], b[6], b[7] = byte(w>>32), byte(w>>40), byte(w>>48), byte(w>>56)
}

// plus answers the sum, and what is carried out of the highest word.
func plus(a, b number) (number, uint64) {
	var c uint64
	a.w0, c = bits.Add64(a.w0, b.w0, 0)
	a.w1, c = bits.Add64(a.w1, b.w1, c)
	a.w2, c = bits.Add64(a.w2, b.w2, c)
	a.w3, c = bits.Add64(a.w3, b.w3, c)
	return a, c
}

// minus answers a less b; with 2^256 more, where that is below 0.
func minus(a, b number) number {
	var c uint64
	a.w0, c = bits.Sub64(a.w0, b.w0, 0)
	a.w1, c = bits.Sub64(a.w1, b.w1, c)
	a.w2, c = bits.Sub64(a.w2, b.w2, c)
	a.w3, _ = bits.Sub64(a.w3, b.w3, c)
	return a
}

// lift answers a difference that is above -L and below L, modulo L: one below 0 gets L.
func lift(n number) number {
	// One below 0 has the highest bit, another hasn't. A mask and no branch, as n may be a secret.
	below := -(n.w3 >> 63)
	n, _ = plus(n, number{order0 & below, order1 & below, 0, 1 << 60 & below})
	return n
}

// modulo answers n modulo L.
func modulo(n number) number {
	return rest(n.w0, n.w1, n.w2, n.w3)
}

// rest answers the number of the words, the lowest first, modulo L.
func rest(words ...uint64) number {
	var n number
	for i := len(words) - 1; i >= 0; i-- {
		n = bringDown(n, words[i])
	}
	return n
}

// bringDown answers n times 2^64, and w, modulo L: a step of long division. n is below L.
func bringDown(n number, w uint64) number {
	// Divided by 2^252 instead of by L, it gives the quotient, or 1 more: what is left then is above -L. Where n is 2^252 or more, that is 2^64; but the quotient is less, as n is below L: so it is 64 bits that are all 1.
	q := n.w3<<4 | n.w2>>60 | -(n.w3 >> 60)
	// Both lack what is 2^256 or more of them; the difference is small enough to be right without.
	return lift(minus(number{w, n.w0, n.w1, n.w2}, timesOrder(q)))
}

// timesOrder answers q times L, without what is 2^256 or more.
func timesOrder(q uint64) number {
	h0, l0 := bits.Mul64(q, order0)
	h1, l1 := bits.Mul64(q, order1)
	l1, c := bits.Add64(l1, h0, 0)
	return number{l0, l1, h1 + c, q << 60}
}

// timesPlus answers a times b, and c, modulo L. It adds a row for each word of a, and each row leaves its lowest word; all of it is below 2^512, at the greatest numbers too.
func timesPlus(a, b, c number) number {
	l0, n := row(c, a.w0, b)
	l1, n := row(n, a.w1, b)
	l2, n := row(n, a.w2, b)
	l3, n := row(n, a.w3, b)
	return rest(l0, l1, l2, l3, n.w0, n.w1, n.w2, n.w3)
}

// row answers the lowest word of sum + x times b, and the four words above it.
func row(sum number, x uint64, b number) (uint64, number) {
	h0, l0 := bits.Mul64(x, b.w0)
	h1, l1 := bits.Mul64(x, b.w1)
	h2, l2 := bits.Mul64(x, b.w2)
	h3, l3 := bits.Mul64(x, b.w3)
	var c, d uint64
	l1, c = bits.Add64(l1, h0, 0)
	l2, c = bits.Add64(l2, h1, c)
	l3, c = bits.Add64(l3, h2, c)
	h3 += c
	l0, d = bits.Add64(l0, sum.w0, 0)
	l1, d = bits.Add64(l1, sum.w1, d)
	l2, d = bits.Add64(l2, sum.w2, d)
	l3, d = bits.Add64(l3, sum.w3, d)
	return l0, number{l1, l2, l3, h3 + d}
}
