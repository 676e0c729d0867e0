package field

import (
	"math/bits"
)

// A number is four words of 64 bits, the lowest first: in fields, as the compiler keeps fields in registers, and arrays not. It stands for itself modulo p, and need not be below p: canonical alone reduces it wholly.
type number struct {
	w0, w1, w2, w3 uint64
}

// Modulo p, 2^255 is 19, and 2^256 is 38. The highest word of a canonical number has lower63's bits alone.
const (
	over255 = 19
	over256 = 38
	lower63 = 1<<63 - 1
)

// read answers the number that the bytes are.
func read(b [32]byte) number {
	return number{word(b[0:8]), word(b[8:16]), word(b[16:24]), word(b[24:32])}
}

// bytesOf answers the canonical bytes of n.
func bytesOf(n number) [32]byte {
	n = canonical(n)
	var b [32]byte
	putWord(b[0:8], n.w0)
	putWord(b[8:16], n.w1)
	putWord(b[16:24], n.w2)
	putWord(b[24:32], n.w3)
	return b
}

// word answers the number that eight bytes are.
func word(b []byte) uint64 {
	return uint64(b[0]) | uint64(b[1])<<8 | uint64(b[2])<<16 | uint64(b[3])<<24 |
		uint64(b[4])<<32 | uint64(b[5])<<40 | uint64(b[6])<<48 | uint64(b[7])<<56
}

// putWord writes the eight bytes of w.
func putWord(b []byte, w uint64) {
	b[0], b[1], b[2], b[3] = byte(w), byte(w>>8), byte(w>>16), byte(w>>24)
	b[4], b[5], b[6], b[7] = byte(w>>32), byte(w>>40), byte(w>>48), byte(w>>56)
}

// canonical answers n modulo p, below p.
func canonical(n number) number {
	top := n.w3 >> 63
	n.w3 &= lower63
	n, _ = plusWord(n, over255*top)
	// n is below p + 38 now, so n + 19 has the highest bit, if and only if n is p or more: then n less p is n + 19 without that bit.
	up, _ := plusWord(n, over255)
	n, _ = plusWord(n, over255*(up.w3>>63))
	n.w3 &= lower63
	return n
}

// plusWord answers n and w, and what is carried out of the highest word.
func plusWord(n number, w uint64) (number, uint64) {
	var c uint64
	n.w0, c = bits.Add64(n.w0, w, 0)
	n.w1, c = bits.Add64(n.w1, 0, c)
	n.w2, c = bits.Add64(n.w2, 0, c)
	n.w3, c = bits.Add64(n.w3, 0, c)
	return n, c
}

// lessWord answers n less w, and what the highest word borrows.
func lessWord(n number, w uint64) (number, uint64) {
	var c uint64
	n.w0, c = bits.Sub64(n.w0, w, 0)
	n.w1, c = bits.Sub64(n.w1, 0, c)
	n.w2, c = bits.Sub64(n.w2, 0, c)
	n.w3, c = bits.Sub64(n.w3, 0, c)
	return n, c
}

// fold answers n and top times 2^256, for a top of few bits.
func fold(n number, top uint64) number {
	n, c := plusWord(n, over256*top)
	// If that carried, n is small now, and the lowest word has room.
	n.w0 += over256 * c
	return n
}

func plus(a, b number) number {
	var c uint64
	a.w0, c = bits.Add64(a.w0, b.w0, 0)
	a.w1, c = bits.Add64(a.w1, b.w1, c)
	a.w2, c = bits.Add64(a.w2, b.w2, c)
	a.w3, c = bits.Add64(a.w3, b.w3, c)
	return fold(a, c)
}

func minus(a, b number) number {
	var c uint64
	a.w0, c = bits.Sub64(a.w0, b.w0, 0)
	a.w1, c = bits.Sub64(a.w1, b.w1, c)
	a.w2, c = bits.Sub64(a.w2, b.w2, c)
	a.w3, c = bits.Sub64(a.w3, b.w3, c)
	a, c = lessWord(a, over256*c)
	// If that borrowed, a is almost 2^256 now, and the lowest word is great enough.
	a.w0 -= over256 * c
	return a
}

// times answers the product: it adds a row for each word of a, and each row leaves its lowest word in the lower half.
func times(a, b number) number {
	var low, high number
	low.w0, high = row(high, a.w0, b)
	low.w1, high = row(high, a.w1, b)
	low.w2, high = row(high, a.w2, b)
	low.w3, high = row(high, a.w3, b)
	w0, rest := row(low, over256, high)
	return fold(number{w0, rest.w0, rest.w1, rest.w2}, rest.w3)
}

// row answers the lowest word of sum + x times b, and the four words above it.
func row(sum number, x uint64, b number) (uint64, number) {
	h0, l0 := bits.Mul64(x, b.w0)
	h1, l1 := bits.Mul64(x, b.w1)
	h2, l2 := bits.Mul64(x, b.w2)
	h3, l3 := bits.Mul64(x, b.w3)
	var c, d uint64
	l1, c = bits.Add64(l1, h0, 0)
	l2, c = bits.Add64(l2, h1, c)
	l3, c = bits.Add64(l3, h2, c)
	h3 += c
	l0, d = bits.Add64(l0, sum.w0, 0)
	l1, d = bits.Add64(l1, sum.w1, d)
	l2, d = bits.Add64(l2, sum.w2, d)
	l3, d = bits.Add64(l3, sum.w3, d)
	return l0, number{l1, l2, l3, h3 + d}
}
