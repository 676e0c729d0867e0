package seipd

import (
	"crypto/aes"
	"crypto/cipher"
	"encoding/binary"
	"slices"
)

// A pair is a block of 16 bytes as two numbers.
type pair struct {
	high, low uint64
}

func pairOf(b []byte) pair {
	return pair{binary.BigEndian.Uint64(b), binary.BigEndian.Uint64(b[8:])}
}

// padded answers what is left of a text as a block, a 1 and noughts behind it.
func padded(rest []byte) pair {
	return pairOf(append(append(slices.Clone(rest), 0x80), make([]byte, 15)...))
}

func (p pair) bytes() []byte {
	return binary.BigEndian.AppendUint64(binary.BigEndian.AppendUint64(nil, p.high), p.low)
}

func (p pair) xor(q pair) pair {
	return pair{p.high ^ q.high, p.low ^ q.low}
}

func (p pair) double() pair {
	return pair{p.high<<1 | p.low>>63, p.low<<1 ^ p.high>>63*0x87}
}

// A book is OCB with tags of 16 bytes by the letter of RFC 7253, on the library's AES.
type book struct {
	aes cipher.Block
}

func newBook(key []byte) book {
	c, err := aes.NewCipher(key)
	if err != nil {
		panic(err)
	}
	return book{c}
}

func (k book) there(p pair) pair {
	b := p.bytes()
	k.aes.Encrypt(b, b)
	return pairOf(b)
}

func (k book) back(p pair) pair {
	b := p.bytes()
	k.aes.Decrypt(b, b)
	return pairOf(b)
}

// l answers L(i); L$ is that of -1, L* that of -2.
func (k book) l(i int) pair {
	p := k.there(pair{})
	for range i + 2 {
		p = p.double()
	}
	return p
}

// step answers the number of noughts at the end of i, from 1 on.
func step(i int) int {
	n := 0
	for ; i%2 == 0; i /= 2 {
		n++
	}
	return n
}

func (k book) offset(nonce []byte) pair {
	p := pairOf(slices.Concat(make([]byte, 15-len(nonce)), []byte{1}, nonce))
	bottom := p.low & 63
	p.low &^= 63
	top := k.there(p)
	more := top.high ^ (top.high<<8 | top.low>>56)
	return pair{top.high<<bottom | top.low>>(64-bottom), top.low<<bottom | more>>(64-bottom)}
}

// hash is HASH of the associated bytes.
func (k book) hash(ad []byte) pair {
	var sum, offset pair
	for i := 1; len(ad) >= 16; i++ {
		offset = offset.xor(k.l(step(i)))
		sum = sum.xor(k.there(pairOf(ad).xor(offset)))
		ad = ad[16:]
	}
	if len(ad) > 0 {
		sum = sum.xor(k.there(padded(ad).xor(offset).xor(k.l(-2))))
	}
	return sum
}

// text answers what a text becomes, and the offset behind it.
func (k book) text(nonce, text []byte, block func(pair) pair) ([]byte, pair) {
	var out []byte
	offset := k.offset(nonce)
	for i := 1; len(text) >= 16; i++ {
		offset = offset.xor(k.l(step(i)))
		out = append(out, block(pairOf(text).xor(offset)).xor(offset).bytes()...)
		text = text[16:]
	}
	if len(text) > 0 {
		offset = offset.xor(k.l(-2))
		for i, x := range k.there(offset).bytes()[:len(text)] {
			out = append(out, x^text[i])
		}
	}
	return out, offset
}

// seal is OCB-ENCRYPT.
func (k book) seal(nonce, ad, plain []byte) []byte {
	out, offset := k.text(nonce, plain, k.there)
	var sum pair
	for part := range slices.Chunk(plain, 16) {
		if len(part) == 16 {
			sum = sum.xor(pairOf(part))
		} else {
			sum = sum.xor(padded(part))
		}
	}
	tag := k.there(sum.xor(offset).xor(k.l(-1))).xor(k.hash(ad))
	return append(out, tag.bytes()...)
}

// unsealed answers the text that would be sealed so; it doesn't ask for the tag.
func (k book) unsealed(nonce, sealed []byte) []byte {
	out, _ := k.text(nonce, sealed[:len(sealed)-16], k.back)
	return out
}
