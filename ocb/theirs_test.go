package ocb

import (
	theirs "crypto/aes"
	"crypto/cipher"
	"math/big"
	"slices"
	"testing"
)

// book is OCB once more, by the letter of RFC 7253: on the library's AES, with strings of bits as numbers.
type book struct {
	aes cipher.Block
}

func newBook(t *testing.T, key []byte) book {
	t.Helper()
	c, err := theirs.NewCipher(key)
	if err != nil {
		t.Fatal(err)
	}
	return book{c}
}

func number(b []byte) *big.Int {
	return new(big.Int).SetBytes(b)
}

// block answers the last 128 bits of a number.
func block(x *big.Int) []byte {
	low := new(big.Int).And(x, new(big.Int).Sub(new(big.Int).Lsh(big.NewInt(1), 128), big.NewInt(1)))
	return low.FillBytes(make([]byte, 16))
}

func (k book) cipher(x *big.Int) *big.Int {
	b := block(x)
	k.aes.Encrypt(b, b)
	return number(b)
}

// l answers L(i), L$ for -1 and L* for -2.
func (k book) l(i int) *big.Int {
	x := k.cipher(new(big.Int))
	for ; i > -2; i-- {
		x.Lsh(x, 1)
		if x.Bit(128) == 1 {
			x.SetBit(x, 128, 0)
			x.Xor(x, big.NewInt(0x87))
		}
	}
	return x
}

// offset answers Offset_0.
func (k book) offset(nonce []byte) *big.Int {
	n := number(nonce)
	n.SetBit(n, 8*len(nonce), 1)
	bottom := uint(new(big.Int).And(n, big.NewInt(63)).Uint64())
	top := block(k.cipher(new(big.Int).Sub(n, big.NewInt(int64(bottom)))))
	stretch := slices.Clone(top)
	for i := range 8 {
		stretch = append(stretch, top[i]^top[i+1])
	}
	return number(block(new(big.Int).Rsh(number(stretch), 64-bottom)))
}

// zeros answers ntz(i).
func zeros(i int) int {
	n := 0
	for ; i%2 == 0; i /= 2 {
		n++
	}
	return n
}

// star answers what is left of a text, with a 1 and noughts behind it.
func star(rest []byte) *big.Int {
	b := append(slices.Clone(rest), 0x80)
	return number(append(b, make([]byte, 16-len(b))...))
}

func (k book) hash(ad []byte) *big.Int {
	sum, offset := new(big.Int), new(big.Int)
	i := 1
	for ; len(ad) >= 16; ad = ad[16:] {
		offset.Xor(offset, k.l(zeros(i)))
		sum.Xor(sum, k.cipher(new(big.Int).Xor(number(ad[:16]), offset)))
		i++
	}
	if len(ad) > 0 {
		offset.Xor(offset, k.l(-2))
		sum.Xor(sum, k.cipher(new(big.Int).Xor(star(ad), offset)))
	}
	return sum
}

// seal is OCB-ENCRYPT, with tags of 128 bits.
func (k book) seal(nonce, ad, plain []byte) []byte {
	offset, sum := k.offset(nonce), new(big.Int)
	var out []byte
	i := 1
	for ; len(plain) >= 16; plain = plain[16:] {
		p := number(plain[:16])
		offset.Xor(offset, k.l(zeros(i)))
		c := k.cipher(new(big.Int).Xor(p, offset))
		out = append(out, block(c.Xor(c, offset))...)
		sum.Xor(sum, p)
		i++
	}
	if len(plain) > 0 {
		offset.Xor(offset, k.l(-2))
		pad := block(k.cipher(offset))
		for at, x := range plain {
			out = append(out, x^pad[at])
		}
		sum.Xor(sum, star(plain))
	}
	tag := k.cipher(sum.Xor(sum, offset).Xor(sum, k.l(-1)))
	return append(out, block(tag.Xor(tag, k.hash(ad)))...)
}
