package aes

// A block's bytes stand column by column: byte i is in row i modulo 4 of column i/4.

// encrypt answers AES of a block, by the keys of its rounds.
func encrypt(keys [][16]byte, b [16]byte) [16]byte {
	last := len(keys) - 1
	b = added(b, keys[0])
	for _, k := range keys[1:last] {
		b = added(mixed(shifted(boxed(b))), k)
	}
	return added(shifted(boxed(b)), keys[last])
}

// decrypt answers the block that encrypt makes b of; back is the box turned round.
func decrypt(keys [][16]byte, back *[256]byte, b [16]byte) [16]byte {
	last := len(keys) - 1
	b = unboxed(back, unshifted(added(b, keys[last])))
	for i := last - 1; i > 0; i-- {
		b = unboxed(back, unshifted(unmixed(added(b, keys[i]))))
	}
	return added(b, keys[0])
}

// added answers a block with a round's key put in.
func added(b, key [16]byte) [16]byte {
	for i := range b {
		b[i] ^= key[i]
	}
	return b
}

// boxed answers a block of which each byte went through the box.
func boxed(b [16]byte) [16]byte {
	for i, x := range b {
		b[i] = box[x]
	}
	return b
}

// unboxed undoes boxed.
func unboxed(back *[256]byte, b [16]byte) [16]byte {
	for i, x := range b {
		b[i] = back[x]
	}
	return b
}

// shifted answers a block of which row r went r columns to the left.
func shifted(b [16]byte) [16]byte {
	var s [16]byte
	for i := range s {
		s[i] = b[(i+i%4*4)%16]
	}
	return s
}

// unshifted undoes shifted.
func unshifted(b [16]byte) [16]byte {
	var s [16]byte
	for i := range b {
		s[(i+i%4*4)%16] = b[i]
	}
	return s
}

// mixed answers a block of whose columns each was multiplied by 3x^3 + x^2 + x + 2.
func mixed(b [16]byte) [16]byte {
	var m [16]byte
	for i := range m {
		at := i - i%4
		all := b[at] ^ b[at+1] ^ b[at+2] ^ b[at+3]
		// Twice a byte, thrice the next one and the two others are all four, with the byte's own place and twice the first two.
		m[i] = b[i] ^ all ^ doubled(b[i]^b[at+(i+1)%4])
	}
	return m
}

// unmixed undoes mixed.
func unmixed(b [16]byte) [16]byte {
	var m [16]byte
	for i := range m {
		// The polynomial that undoes mixed's is mixed's own, times 4x^2 + 5: so this step's factor goes ahead, and mixed does the rest.
		m[i] = b[i] ^ doubled(doubled(b[i]^b[i-i%4+(i+2)%4]))
	}
	return mixed(m)
}

// doubled answers x times the polynomial x, modulo x^8 + x^4 + x^3 + x + 1.
func doubled(x byte) byte {
	return x<<1 ^ x>>7*0x1b
}
