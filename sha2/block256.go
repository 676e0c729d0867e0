package sha2

import "math/bits"

// block256 is how many bytes a block of SHA-256 has.
const block256 = 64

// start256 is the state ahead of all blocks: the square roots' fractions of the first 8 primes.
var start256 = [8]uint32{
	0x6a09e667, 0xbb67ae85, 0x3c6ef372, 0xa54ff53a, 0x510e527f, 0x9b05688c, 0x1f83d9ab, 0x5be0cd19,
}

// rounds256 is K(0), K(1), ..: the cube roots' fractions of the first 64 primes.
var rounds256 = [64]uint32{
	0x428a2f98, 0x71374491, 0xb5c0fbcf, 0xe9b5dba5, 0x3956c25b, 0x59f111f1, 0x923f82a4, 0xab1c5ed5,
	0xd807aa98, 0x12835b01, 0x243185be, 0x550c7dc3, 0x72be5d74, 0x80deb1fe, 0x9bdc06a7, 0xc19bf174,
	0xe49b69c1, 0xefbe4786, 0x0fc19dc6, 0x240ca1cc, 0x2de92c6f, 0x4a7484aa, 0x5cb0a9dc, 0x76f988da,
	0x983e5152, 0xa831c66d, 0xb00327c8, 0xbf597fc7, 0xc6e00bf3, 0xd5a79147, 0x06ca6351, 0x14292967,
	0x27b70a85, 0x2e1b2138, 0x4d2c6dfc, 0x53380d13, 0x650a7354, 0x766a0abb, 0x81c2c92e, 0x92722c85,
	0xa2bfe8a1, 0xa81a664b, 0xc24b8b70, 0xc76c51a3, 0xd192e819, 0xd6990624, 0xf40e3585, 0x106aa070,
	0x19a4c116, 0x1e376c08, 0x2748774c, 0x34b0bcb5, 0x391c0cb3, 0x4ed8aa4a, 0x5b9cca4f, 0x682e6ff3,
	0x748f82ee, 0x78a5636f, 0x84c87814, 0x8cc70208, 0x90befffa, 0xa4506ceb, 0xbef9a3f7, 0xc67178f2,
}

// take256 answers the state behind a block.
func take256(state [8]uint32, block [block256]byte) [8]uint32 {
	w := words256(block)
	a, b, c, d, e, f, g, h := state[0], state[1], state[2], state[3], state[4], state[5], state[6], state[7]
	for t := range w {
		t1 := h + bigOne256(e) + (e&f ^ ^e&g) + rounds256[t] + w[t]
		t2 := bigNought256(a) + (a&b ^ a&c ^ b&c)
		a, b, c, d, e, f, g, h = t1+t2, a, b, c, d+t1, e, f, g
	}
	for i, x := range [8]uint32{a, b, c, d, e, f, g, h} {
		state[i] += x
	}
	return state
}

// words256 answers a block's words W(0) to W(63).
func words256(block [block256]byte) [64]uint32 {
	var w [64]uint32
	for i, x := range block {
		w[i/4] = w[i/4]<<8 | uint32(x)
	}
	for t := 16; t < len(w); t++ {
		w[t] = smallOne256(w[t-2]) + w[t-7] + smallNought256(w[t-15]) + w[t-16]
	}
	return w
}

// bytes256 answers the bytes of a state.
func bytes256(state [8]uint32) [32]byte {
	var b [32]byte
	for i := range b {
		b[i] = byte(state[i/4] >> (24 - i%4*8))
	}
	return b
}

func rotr32(x uint32, n int) uint32 { return bits.RotateLeft32(x, -n) }

func bigNought256(x uint32) uint32   { return rotr32(x, 2) ^ rotr32(x, 13) ^ rotr32(x, 22) }
func bigOne256(x uint32) uint32      { return rotr32(x, 6) ^ rotr32(x, 11) ^ rotr32(x, 25) }
func smallNought256(x uint32) uint32 { return rotr32(x, 7) ^ rotr32(x, 18) ^ x>>3 }
func smallOne256(x uint32) uint32    { return rotr32(x, 17) ^ rotr32(x, 19) ^ x>>10 }
