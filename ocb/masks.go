package ocb

import (
	"math/bits"

	"postilion/aes"
	"postilion/api"
)

// masks is AES by one key, and what the offsets under that key are made of.
type masks struct {
	key          []byte
	star, dollar [size]byte // L* and L$
}

// newMasks answers the masks of a key; ErrArg, if AES has no keys of so many bytes.
func newMasks(key []byte) (masks, api.Errno) {
	star, e := aes.Encrypt(key, [size]byte{})
	if e != api.OK {
		return masks{}, e
	}
	return masks{key, star, doubled(star)}, api.OK
}

// encrypt answers AES of a block; it can't fail: newMasks has asked for the key.
func (m masks) encrypt(b [size]byte) [size]byte {
	out, _ := aes.Encrypt(m.key, b)
	return out
}

// decrypt undoes encrypt.
func (m masks) decrypt(b [size]byte) [size]byte {
	out, _ := aes.Decrypt(m.key, b)
	return out
}

// step answers what is put into the offset at the whole block i, from 1 on: L(ntz(i)). No L(i) is stored: a block needs two doublings on the average, far less than its AES.
func (m masks) step(i uint) [size]byte {
	l := doubled(m.dollar)
	for range bits.TrailingZeros(i) {
		l = doubled(l)
	}
	return l
}

// firstOffset answers the first offset of a nonce of 1 to 15 bytes.
func (m masks) firstOffset(nonce []byte) [size]byte {
	var b [size]byte
	at := size - len(nonce)
	b[at-1] = 1
	copy(b[at:], nonce)
	bottom := int(b[size-1] & 63)
	b[size-1] &^= 63
	return cutFrom(stretched(m.encrypt(b)), bottom)
}

// stretched answers Stretch of Ktop.
func stretched(top [size]byte) [size + 8]byte {
	var s [size + 8]byte
	copy(s[:], top[:])
	for i := range 8 {
		s[size+i] = top[i] ^ top[i+1]
	}
	return s
}

// cutFrom answers the 128 bits of Stretch from the bit bottom on, which is at most 63.
func cutFrom(s [size + 8]byte, bottom int) [size]byte {
	var b [size]byte
	for i := range b {
		at := bottom/8 + i
		b[i] = s[at]<<(bottom%8) | s[at+1]>>(8-bottom%8)
	}
	return b
}

// doubled answers the double of a block.
func doubled(b [size]byte) [size]byte {
	var d [size]byte
	for i := range size - 1 {
		d[i] = b[i]<<1 | b[i+1]>>7
	}
	d[size-1] = b[size-1]<<1 ^ b[0]>>7*135
	return d
}

// xored answers the exclusive or of two blocks.
func xored(a, b [size]byte) [size]byte {
	for i := range a {
		a[i] ^= b[i]
	}
	return a
}
