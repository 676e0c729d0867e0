package sha2

import (
	"bytes"
	"crypto/hkdf"
	"crypto/hmac"
	"crypto/sha256"
	"crypto/sha512"
	"encoding/hex"
	"math"
	"strings"
	"testing"
)

// sample answers n bytes that differ from place to place and from seed to seed.
func sample(seed byte, n int) []byte {
	b := make([]byte, n)
	x := uint32(seed)*2654435761 + 12345
	for i := range b {
		x = x*1664525 + 1013904223
		b[i] = byte(x >> 24)
	}
	return b
}

func unhex(t *testing.T, s string) []byte {
	t.Helper()
	b, err := hex.DecodeString(strings.ReplaceAll(s, " ", ""))
	if err != nil {
		t.Fatal(err)
	}
	return b
}

// theirMAC is the library's HMAC.
func theirMAC(key, message []byte) []byte {
	m := hmac.New(sha256.New, key)
	m.Write(message)
	return m.Sum(nil)
}

func TestP1_1KnownHashes(t *testing.T) {
	two := "abcdefghbcdefghicdefghijdefghijkefghijklfghijklmghijklmnhijklmnoijklmnopjklmnopqklmnopqrlmnopqrsmnopqrstnopqrstu"
	for _, c := range []struct{ in, sum256, sum512 string }{
		{"", "e3b0c442 98fc1c14 9afbf4c8 996fb924 27ae41e4 649b934c a495991b 7852b855",
			"cf83e1357eefb8bd f1542850d66d8007 d620e4050b5715dc 83f4a921d36ce9ce 47d0d13c5d85f2b0 ff8318d2877eec2f 63b931bd47417a81 a538327af927da3e"},
		{"abc", "ba7816bf 8f01cfea 414140de 5dae2223 b00361a3 96177a9c b410ff61 f20015ad",
			"ddaf35a193617aba cc417349ae204131 12e6fa4e89a97ea2 0a9eeee64b55d39a 2192992a274fc1a8 36ba3c23a3feebbd 454d4423643ce80e 2a9ac94fa54ca49f"},
		{two, "cf5b16a7 78af8380 036ce59e 7b049237 0b249b11 e8f07a51 afac4503 7afee9d1",
			"8e959b75dae313da 8cf4f72814fc143f 8f7779c6eb9f7fa1 7299aeadb6889018 501d289e4900f7e4 331b99dec4b5433a c7d329eeb6dd2654 5e96e55b874be909"},
	} {
		if h := Sum256([]byte(c.in)); !bytes.Equal(h[:], unhex(t, c.sum256)) {
			t.Errorf("Sum256(%q): %x", c.in, h)
		}
		if h := Sum512([]byte(c.in)); !bytes.Equal(h[:], unhex(t, c.sum512)) {
			t.Errorf("Sum512(%q): %x", c.in, h)
		}
	}
	if Sum256(nil) != Sum256([]byte{}) || Sum512(nil) != Sum512([]byte{}) {
		t.Error("nil and empty differ")
	}
}

// Every length through several blocks' ends: 55, 56, 63, 64, 111, 112, 119, 120, 127, 128 among them.
func TestP1_1EveryLength(t *testing.T) {
	for n := range 600 {
		for _, b := range [][]byte{sample(byte(n), n), make([]byte, n), bytes.Repeat([]byte{255}, n)} {
			if h := Sum256(b); h != sha256.Sum256(b) {
				t.Errorf("Sum256 of %d bytes: %x", n, h)
			}
			if h := Sum512(b); h != sha512.Sum512(b) {
				t.Errorf("Sum512 of %d bytes: %x", n, h)
			}
		}
	}
}

// The number of bits needs more than 32 of them here.
func TestP1_1LongMessage(t *testing.T) {
	if testing.Short() {
		t.Skip("half a gigabyte")
	}
	b := make([]byte, 1<<29+5)
	t.Run("Sum256", func(t *testing.T) {
		t.Parallel()
		if h := Sum256(b); h != sha256.Sum256(b) {
			t.Errorf("%x", h)
		}
	})
	t.Run("Sum512", func(t *testing.T) {
		t.Parallel()
		if h := Sum512(b); h != sha512.Sum512(b) {
			t.Errorf("%x", h)
		}
	})
}

// RFC 4231, and the chapter's example.
func TestP1_1KnownMACs(t *testing.T) {
	long := bytes.Repeat([]byte{0xaa}, 131)
	for _, c := range []struct {
		key     []byte
		message string
		want    string
	}{
		{[]byte("key"), "The quick brown fox jumps over the lazy dog", "f7bc83f4 30538424 b13298e6 aa6fb143 ef4d59a1 49461759 97479dbc 2d1a3cd8"},
		{bytes.Repeat([]byte{0x0b}, 20), "Hi There", "b0344c61d8db38535ca8afceaf0bf12b881dc200c9833da726e9376c2e32cff7"},
		{[]byte("Jefe"), "what do ya want for nothing?", "5bdcc146bf60754e6a042426089575c75a003f089d2739839dec58b964ec3843"},
		{long, "Test Using Larger Than Block-Size Key - Hash Key First", "60e431591ee0b67f0d8a26aacbf5b77f8e0bc6213728c5140546040f0ee37f54"},
		{long, "This is a test using a larger than block-size key and a larger than block-size data. The key needs to be hashed before being used by the HMAC algorithm.", "9b09ffa71b942fcb27635fbcd5b0e944bfdc63644f0713938a7f51535c3a35e2"},
	} {
		if m := MAC(c.key, []byte(c.message)); !bytes.Equal(m[:], unhex(t, c.want)) {
			t.Errorf("MAC of %q: %x", c.message, m)
		}
	}
}

// Keys of up to three blocks, those of 63, 64, 65 and more bytes among them.
func TestP1_1MACKeys(t *testing.T) {
	for k := range 200 {
		for _, n := range []int{0, 1, 55, 56, 63, 64, 65, 200} {
			key, message := sample(1, k), sample(2, n)
			if m := MAC(key, message); !bytes.Equal(m[:], theirMAC(key, message)) {
				t.Errorf("MAC of a key of %d and a message of %d: %x", k, n, m)
			}
		}
	}
	if MAC(nil, nil) != MAC([]byte{}, []byte{}) {
		t.Error("nil and empty differ")
	}
	long := sample(3, 65)
	sum := Sum256(long)
	if MAC(long, long) != MAC(sum[:], long) {
		t.Error("a key of 65 bytes isn't its hash")
	}
	if MAC(long[:64], long) == MAC(long, long) {
		t.Error("the byte 64 of a key counts for nothing")
	}
}

// RFC 5869.
func TestP1_1KnownDerived(t *testing.T) {
	run := func(from, n int) []byte {
		b := make([]byte, n)
		for i := range b {
			b[i] = byte(from + i)
		}
		return b
	}
	secret := bytes.Repeat([]byte{0x0b}, 22)
	for i, c := range []struct {
		salt, secret, info []byte
		want               string
	}{
		{run(0, 13), secret, run(0xf0, 10), "3cb25f25faacd57a90434f64d0362f2a2d2d0a90cf1a5a4c5db02d56ecc4c5bf34007208d5b887185865"},
		{run(0x60, 80), run(0, 80), run(0xb0, 80), "b11e398dc80327a1c8e7f78c596a49344f012eda2d4efad8a050cc4c19afa97c59045a99cac7827271cb41c65e590e09da3275600c2f09b8367793a9aca3db71cc30c58179ec3e87c14c01d5c1f3434f1d87"},
		{nil, secret, nil, "8da4e775a563c18f715f802a063c5a31b8a11f5c5ee1879ec3454e5f3c738d2d9d201395faa4b61a96c8"},
	} {
		want := unhex(t, c.want)
		if b := Derive(c.salt, c.secret, c.info, len(want)); !bytes.Equal(b, want) {
			t.Errorf("case %d: %x", i+1, b)
		}
	}
}

func TestP1_1Derive(t *testing.T) {
	for _, s := range []int{0, 1, 31, 32, 33, 64, 65, 100} {
		for _, k := range []int{0, 1, 32, 65} {
			for _, f := range []int{0, 1, 80} {
				salt, secret, info := sample(1, s), sample(2, k), sample(3, f)
				for _, n := range []int{1, 2, 31, 32, 33, 63, 64, 65, 96, 97, 255, 256, 8128, 8129, 8159, 8160} {
					want, err := hkdf.Key(sha256.New, secret, salt, string(info), n)
					if err != nil {
						t.Fatal(err)
					}
					if b := Derive(salt, secret, info, n); !bytes.Equal(b, want) {
						t.Errorf("salt %d, secret %d, info %d, length %d: %x", s, k, f, n, b)
					}
				}
			}
		}
	}
}

func TestP1_1NoSalt(t *testing.T) {
	none, nought := Derive(nil, []byte("secret"), []byte("info"), 50), Derive(make([]byte, 32), []byte("secret"), []byte("info"), 50)
	if !bytes.Equal(none, nought) || !bytes.Equal(none, Derive([]byte{}, []byte("secret"), []byte("info"), 50)) {
		t.Errorf("no salt: %x, 32 noughts: %x", none, nought)
	}
}

func TestP1_1DeriveBounds(t *testing.T) {
	for _, n := range []int{math.MinInt, -8160, -1, 0, 8161, 8192, 1 << 20, math.MaxInt} {
		if b := Derive([]byte("salt"), []byte("secret"), []byte("info"), n); len(b) != 0 {
			t.Errorf("length %d: %d bytes", n, len(b))
		}
	}
	for _, n := range []int{1, 8160} {
		if b := Derive(nil, nil, nil, n); len(b) != n {
			t.Errorf("length %d: %d bytes", n, len(b))
		}
	}
}

// What is handed in stays as it is, its spare room too, and answers share no memory.
func TestP1_1Memory(t *testing.T) {
	whole := sample(9, 300)
	kept := bytes.Clone(whole)
	first, second, third := whole[:100], whole[100:170], whole[170:250]
	Sum256(first)
	Sum512(first)
	MAC(first, second)
	MAC(second[:10], third)
	one := Derive(first, second, third, 70)
	two := Derive(first, second, third, 70)
	if !bytes.Equal(whole, kept) {
		t.Error("an argument was changed")
	}
	if !bytes.Equal(one, two) {
		t.Error("the same arguments, but other bytes")
	}
	clear(one[:cap(one)])
	if bytes.Equal(one, two) || !bytes.Equal(two, Derive(first, second, third, 70)) || !bytes.Equal(whole, kept) {
		t.Error("an answer shares its memory")
	}
}
