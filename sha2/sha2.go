// Package sha2 is layer 1: see shared/doc/01-sha2.md.
package sha2

// longest is the most bytes that HKDF has: its blocks' numbers are single bytes.
const longest = 255 * 32

// Sum256 answers the SHA-256 of b.
func Sum256(b []byte) [32]byte {
	h := New()
	h.Write(b)
	return h.Sum()
}

// Sum512 answers the SHA-512 of b.
func Sum512(b []byte) [64]byte {
	whole := len(b) - len(b)%block512
	end := append([]byte{}, b[whole:]...)
	end = append(end, padding(uint64(len(b)), block512, 16)...)
	return bytes512(take512(take512(start512, b[:whole]), end))
}

// MAC answers the HMAC of key and message with SHA-256.
func MAC(key, message []byte) [32]byte {
	return mac(key, message)
}

// Derive answers the HKDF of n bytes with SHA-256; none, if n is below 1 or above 8160.
func Derive(salt, secret, info []byte, n int) []byte {
	if n < 1 || n > longest {
		return nil
	}
	// No salt needs no case of its own: HMAC puts noughts behind its key, so that no bytes are the same key as 32 noughts.
	t := mac(salt, secret)
	out := make([]byte, 0, n)
	var last []byte
	for i := byte(1); len(out) < n; i++ {
		next := mac(t[:], last, info, []byte{i})
		out = append(out, next[:min(len(next), n-len(out))]...)
		last = next[:]
	}
	return out
}

// mac answers the HMAC of the pieces, one behind the other; that they come in pieces spares a copy of them.
func mac(key []byte, pieces ...[]byte) [32]byte {
	if len(key) > block256 {
		sum := Sum256(key)
		key = sum[:]
	}
	inner := keyed(key, 54)
	for _, p := range pieces {
		inner.Write(p)
	}
	sum := inner.Sum()
	outer := keyed(key, 92)
	outer.Write(sum[:])
	return outer.Sum()
}

// keyed answers a Hash that has taken HMAC's key, of at most a block, with mask in each of its block's bytes.
func keyed(key []byte, mask byte) *Hash {
	var block [block256]byte
	copy(block[:], key)
	for i := range block {
		block[i] ^= mask
	}
	h := New()
	h.Write(block[:])
	return h
}

// padding answers what stands behind a message of so many bytes: 128, noughts up to a block's last count bytes, and in these the number of bits.
func padding(length uint64, block, count int) []byte {
	fill := block - int((length+uint64(count))%uint64(block))
	pad := make([]byte, fill+count)
	pad[0] = 128
	// Eight bytes hold the number whatever count is: no message has 2^61 bytes.
	number := length * 8
	for i := range 8 {
		pad[len(pad)-1-i] = byte(number >> (8 * i))
	}
	return pad
}
