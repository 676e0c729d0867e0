package aes

import (
	theirs "crypto/aes"
	"encoding/binary"
	"slices"
	"testing"

	"postilion/api"
)

// theirWrap wraps by RFC 3394, 2.2.1, on the library's AES, with A's first eight bytes as a number.
func theirWrap(t *testing.T, key []byte, a uint64, data []byte) []byte {
	t.Helper()
	c, err := theirs.NewCipher(key)
	if err != nil {
		t.Fatal(err)
	}
	n := len(data) / 8
	r := make([][]byte, n+1)
	for i := 1; i <= n; i++ {
		r[i] = slices.Clone(data[8*i-8 : 8*i])
	}
	for j := range 6 {
		for i := 1; i <= n; i++ {
			b := append(binary.BigEndian.AppendUint64(nil, a), r[i]...)
			c.Encrypt(b, b)
			a = binary.BigEndian.Uint64(b) ^ uint64(n*j+i)
			r[i] = b[8:]
		}
	}
	r[0] = binary.BigEndian.AppendUint64(nil, a)
	return slices.Concat(r...)
}

const start3394 = 0xa6a6a6a6a6a6a6a6

// checkWrap holds wrapped data, and back, against what it must be.
func checkWrap(t *testing.T, key, data, want []byte) {
	t.Helper()
	if out, e := Wrap(key, data); e != api.OK || !slices.Equal(out, want) {
		t.Errorf("Wrap %x, %x: %x, %v", key, data, out, e)
	}
	if out, e := Unwrap(key, want); e != api.OK || !slices.Equal(out, data) {
		t.Errorf("Unwrap %x, %x: %x, %v", key, want, out, e)
	}
}

// refused holds Unwrap to ErrAuth, and nothing beside it.
func refused(t *testing.T, what string, key, wrapped []byte) {
	t.Helper()
	if out, e := Unwrap(key, wrapped); e != api.ErrAuth || out != nil {
		t.Errorf("%s: %x, %v", what, out, e)
	}
}

// RFC 3394, 4.1 (the chapter's example), 4.3, 4.5 and 4.6.
func TestP2_2Known(t *testing.T) {
	for _, c := range []struct {
		key, data int
		more      string
		out       string
	}{
		{16, 16, "", "1fa68b0a 8112b447 aef34bd8 fb5a7b82 9d3e8623 71d2cfe5"},
		{32, 16, "", "64e8c3f9ce0f5ba2 63e9777905818a2a 93c8191e7d6e8ae7"},
		{32, 16, "0001020304050607", "a8f9bc1612c68b3f f6e6f4fbe30e71e4 769c8b80a32cb895 8cd5d17d6b254da1"},
		{32, 16, "000102030405060708090a0b0c0d0e0f", "28c9f404c4b810f4 cbccb35cfb87f826 3f5786e2d80ed326 cbc7f0e71a99f43b fb988b9b7a02dd21"},
	} {
		checkWrap(t, count(c.key, 1), append(count(c.data, 0x11), unhex(t, c.more)...), unhex(t, c.out))
	}
}

// All lengths that may be wrapped, with both lengths of keys.
func TestP2_2EveryLength(t *testing.T) {
	for _, k := range []int{16, 32} {
		for n := 16; n <= 128; n += 8 {
			for seed := range uint32(10) {
				key, data := sample(seed, k), sample(seed+77, n)
				checkWrap(t, key, data, theirWrap(t, key, start3394, data))
			}
			checkWrap(t, make([]byte, k), make([]byte, n), theirWrap(t, make([]byte, k), start3394, make([]byte, n)))
		}
	}
}

func TestP2_2DataLengths(t *testing.T) {
	for _, k := range []int{16, 32} {
		key := sample(1, k)
		for n := range 400 {
			out, e := Wrap(key, sample(2, n))
			if n >= 16 && n <= 128 && n%8 == 0 {
				if e != api.OK || len(out) != n+8 {
					t.Errorf("Wrap of %d bytes: %d bytes, %v", n, len(out), e)
				}
			} else if e != api.ErrArg || out != nil {
				t.Errorf("Wrap of %d bytes: %x, %v", n, out, e)
			}
			out, e = Unwrap(key, sample(2, n))
			want := api.ErrArg
			if n >= 24 && n <= 136 && n%8 == 0 {
				want = api.ErrAuth
			}
			if e != want || out != nil {
				t.Errorf("Unwrap of %d bytes: %x, %v", n, out, e)
			}
		}
	}
	for _, none := range [][]byte{nil, {}} {
		if out, e := Wrap(count(16, 1), none); e != api.ErrArg || out != nil {
			t.Errorf("Wrap of nothing: %x, %v", out, e)
		}
		if out, e := Unwrap(count(16, 1), none); e != api.ErrArg || out != nil {
			t.Errorf("Unwrap of nothing: %x, %v", out, e)
		}
	}
}

func TestP2_2KeyLengths(t *testing.T) {
	data := sample(3, 40)
	for n := range 100 {
		key := sample(4, n)
		if n == 16 || n == 32 {
			checkWrap(t, key, data, theirWrap(t, key, start3394, data))
			continue
		}
		if out, e := Wrap(key, data); e != api.ErrArg || out != nil {
			t.Errorf("Wrap by a key of %d bytes: %x, %v", n, out, e)
		}
		if out, e := Unwrap(key, data); e != api.ErrArg || out != nil {
			t.Errorf("Unwrap by a key of %d bytes: %x, %v", n, out, e)
		}
	}
}

// Each bit of what is wrapped is held.
func TestP2_2TurnedBits(t *testing.T) {
	for _, n := range []int{16, 24, 64, 128} {
		key := sample(5, 16+n%16*2)
		wrapped := theirWrap(t, key, start3394, sample(6, n))
		for bit := range 8 * len(wrapped) {
			turned := slices.Clone(wrapped)
			turned[bit/8] ^= 1 << (bit % 8)
			refused(t, "a bit turned", key, turned)
		}
		swapped := slices.Concat(wrapped[:8], wrapped[16:24], wrapped[8:16], wrapped[24:])
		refused(t, "two parts swapped", key, swapped)
	}
}

// Each bit of the key is held, and its length.
func TestP2_2OtherKeys(t *testing.T) {
	for _, k := range []int{16, 32} {
		key, data := sample(7, k), sample(8, 48)
		wrapped := theirWrap(t, key, start3394, data)
		for bit := range 8 * k {
			other := slices.Clone(key)
			other[bit/8] ^= 1 << (bit % 8)
			refused(t, "another key", other, wrapped)
		}
	}
	key := sample(7, 32)
	wrapped := theirWrap(t, key[:16], start3394, sample(8, 48))
	refused(t, "a longer key", key, wrapped)
	refused(t, "a key twice", slices.Repeat(key[:16], 2), wrapped)
}

// Each bit of A is asked: what is wrapped well, but from another A, is refused.
func TestP2_2OtherStarts(t *testing.T) {
	key, data := sample(9, 32), sample(10, 32)
	for bit := range 64 {
		refused(t, "another A", key, theirWrap(t, key, start3394^1<<bit, data))
	}
	for _, a := range []uint64{0, 1<<64 - 1, 0xa65959a6a65959a6} {
		refused(t, "another A", key, theirWrap(t, key, a, data))
	}
}

// What is wrapped for one length isn't a longer or shorter one's.
func TestP2_2CutOrLonger(t *testing.T) {
	key := sample(11, 16)
	wrapped := theirWrap(t, key, start3394, sample(12, 64))
	refused(t, "cut", key, wrapped[:len(wrapped)-8])
	refused(t, "cut ahead", key, wrapped[8:])
	refused(t, "longer", key, append(slices.Clone(wrapped), 0, 0, 0, 0, 0, 0, 0, 0))
}

// What is handed in is left as it is, its spare room too, and an answer shares nothing with it.
func TestP2_2Memory(t *testing.T) {
	room := sample(13, 500)
	key, data := room[:32], room[100:164]
	wrapped, _ := Wrap(key, data)
	place := append(slices.Clone(wrapped), room...)
	opened, e := Unwrap(key, place[:len(wrapped)])
	if e != api.OK || !slices.Equal(opened, data) {
		t.Fatalf("%x, %v", opened, e)
	}
	refused(t, "another key", room[32:64], place[:len(wrapped)])
	if !slices.Equal(room, sample(13, 500)) || !slices.Equal(place[len(wrapped):], room) || !slices.Equal(place[:len(wrapped)], wrapped) {
		t.Error("an argument is changed")
	}
	clear(wrapped[:cap(wrapped)])
	clear(opened[:cap(opened)])
	if !slices.Equal(room, sample(13, 500)) || slices.Max(place[:24]) == 0 {
		t.Error("an answer lies in an argument")
	}
	again, _ := Wrap(key, data)
	clear(again[:cap(again)])
	if once, _ := Wrap(key, data); slices.Max(once) == 0 {
		t.Error("two answers lie in one place")
	}
}
