package aes

import (
	theirs "crypto/aes"
	"encoding/hex"
	"slices"
	"strings"
	"testing"

	"postilion/api"
)

// sample answers n bytes that differ from place to place and from seed to seed.
func sample(seed uint32, n int) []byte {
	b := make([]byte, n)
	x := seed*2654435761 + 12345
	for i := range b {
		x = x*1664525 + 1013904223
		b[i] = byte(x >> 24)
	}
	return b
}

// count answers n bytes: 0, step, 2*step, ..
func count(n, step int) []byte {
	b := make([]byte, n)
	for i := range b {
		b[i] = byte(i * step)
	}
	return b
}

func unhex(t *testing.T, s string) []byte {
	t.Helper()
	b, err := hex.DecodeString(strings.ReplaceAll(s, " ", ""))
	if err != nil {
		t.Fatal(err)
	}
	return b
}

// theirBlock is the library's AES of a block.
func theirBlock(t *testing.T, key []byte, in [16]byte) [16]byte {
	t.Helper()
	c, err := theirs.NewCipher(key)
	if err != nil {
		t.Fatal(err)
	}
	var out [16]byte
	c.Encrypt(out[:], in[:])
	return out
}

// checkBlock holds AES of a block, and back, against what it must be.
func checkBlock(t *testing.T, key []byte, in, want [16]byte) {
	t.Helper()
	if out, e := Encrypt(key, in); e != api.OK || out != want {
		t.Errorf("Encrypt %x, %x: %x, %v", key, in, out, e)
	}
	if out, e := Decrypt(key, want); e != api.OK || out != in {
		t.Errorf("Decrypt %x, %x: %x, %v", key, want, out, e)
	}
}

// FIPS 197, C.1 and C.3 (the chapter's examples) and B; SP 800-38A, F.1.1 and F.1.5.
func TestP2_1KnownBlocks(t *testing.T) {
	for _, c := range []struct{ key, in, out string }{
		{"000102030405060708090a0b0c0d0e0f", "00112233445566778899aabbccddeeff", "69c4e0d8 6a7b0430 d8cdb780 70b4c55a"},
		{"000102030405060708090a0b0c0d0e0f101112131415161718191a1b1c1d1e1f", "00112233445566778899aabbccddeeff", "8ea2b7ca 516745bf eafc4990 4b496089"},
		{"2b7e151628aed2a6abf7158809cf4f3c", "3243f6a8885a308d313198a2e0370734", "3925841d02dc09fbdc118597196a0b32"},
		{"2b7e151628aed2a6abf7158809cf4f3c", "6bc1bee22e409f96e93d7e117393172a", "3ad77bb40d7a3660a89ecaf32466ef97"},
		{"603deb1015ca71be2b73aef0857d77811f352c073b6108d72d9810a30914dff4", "6bc1bee22e409f96e93d7e117393172a", "f3eed1bdb5d2a03c064b5a7e3db181f8"},
	} {
		checkBlock(t, unhex(t, c.key), [16]byte(unhex(t, c.in)), [16]byte(unhex(t, c.out)))
	}
}

func TestP2_1AsTheLibrary(t *testing.T) {
	for i := range uint32(2000) {
		for _, n := range []int{16, 32} {
			key, in := sample(i, n), [16]byte(sample(i+5000, 16))
			checkBlock(t, key, in, theirBlock(t, key, in))
		}
	}
}

// Every bit of a key, and of a block, alone and missing.
func TestP2_1SingleBits(t *testing.T) {
	for _, fill := range []byte{0, 255} {
		for _, n := range []int{16, 32} {
			for bit := range 8*n + 128 {
				b := slices.Repeat([]byte{fill}, n+16)
				b[bit/8] ^= 1 << (bit % 8)
				key, in := b[:n], [16]byte(b[n:])
				checkBlock(t, key, in, theirBlock(t, key, in))
			}
		}
	}
}

// What was never AES of anything but by this key is opened, too: each 16 bytes are AES of some.
func TestP2_1DecryptFirst(t *testing.T) {
	for i := range uint32(500) {
		key, in := sample(i, 16+int(i%2)*16), [16]byte(sample(i+9000, 16))
		out, e := Decrypt(key, in)
		if e != api.OK || theirBlock(t, key, out) != in {
			t.Errorf("Decrypt %x, %x: %x, %v", key, in, out, e)
		}
	}
}

func TestP2_1KeyLengths(t *testing.T) {
	in := [16]byte(sample(1, 16))
	for n := range 300 {
		key := sample(2, n)
		out, e := Encrypt(key, in)
		back, f := Decrypt(key, in)
		if n == 16 || n == 32 {
			if e != api.OK || f != api.OK {
				t.Errorf("%d bytes: %v, %v", n, e, f)
			}
		} else if e != api.ErrArg || f != api.ErrArg || out != [16]byte{} || back != [16]byte{} {
			t.Errorf("%d bytes: %x, %v; %x, %v", n, out, e, back, f)
		}
	}
	if _, e := Encrypt(nil, in); e != api.ErrArg {
		t.Error("Encrypt nil:", e)
	}
	if _, e := Decrypt(nil, in); e != api.ErrArg {
		t.Error("Decrypt nil:", e)
	}
}

// A key's spare room is no part of it, and is left as it is.
func TestP2_1KeyIsLeft(t *testing.T) {
	for _, n := range []int{16, 32} {
		room := sample(3, 400)
		in := [16]byte(sample(4, 16))
		checkBlock(t, room[:n], in, theirBlock(t, sample(3, 400)[:n], in))
		if !slices.Equal(room, sample(3, 400)) {
			t.Error("a key is changed")
		}
	}
}

// The box is the inverse modulo x^8 + x^4 + x^3 + x + 1, its bits mixed, with 0x63 put in.
func TestP2_1Box(t *testing.T) {
	back := boxBack()
	for i := range 256 {
		x := byte(i)
		inverse := byte(0)
		for y := range 256 {
			if product(x, byte(y)) == 1 {
				inverse = byte(y)
			}
		}
		want := byte(0x63)
		for k := range 5 {
			want ^= inverse<<k | inverse>>(8-k)
		}
		if box[x] != want || back[want] != x {
			t.Errorf("%#x: %#x and not %#x; back %#x", x, box[x], want, back[want])
		}
	}
}

func product(x, y byte) byte {
	var p byte
	for ; y > 0; y >>= 1 {
		if y&1 == 1 {
			p ^= x
		}
		x = doubled(x)
	}
	return p
}
