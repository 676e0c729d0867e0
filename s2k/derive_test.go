package s2k

import (
	"bytes"
	"encoding/hex"
	"math/rand/v2"
	"slices"
	"strings"
	"testing"

	"postilion/api"
)

func TestP13_1DeriveKnown(t *testing.T) {
	// The SHA-256 of "saltsaltpass" again and again, 1024 bytes.
	const want = "05bdcd9ad397d0af19be8d2c550964564f1a2829256ed783692560e23430ccc0"
	key, size, e := Derive([]byte("\x03\x08saltsalt\x00"), []byte("pass"), 32)
	if e != api.OK || size != 11 || hex.EncodeToString(key) != want {
		t.Errorf("%x, %d, %v", key, size, e)
	}
}

// RFC 9580, A.9 to A.11: their count is above MaxCount, so Derive refuses it, but the hash 0 is theirs.
func TestP13_1HashKnown(t *testing.T) {
	if testing.Short() {
		t.Skip("three hashes of 65 million bytes")
	}
	t.Parallel()
	for salt, want := range map[string]string{
		"a5ae579d1fc5d82b": "154967e590aa1f923e1c0ac64c88f23d",
		"56a298d2f5e36453": "e80de243a362d93b9dc607ede96a7356",
		"e9d39785b2070008": "250281715bba7828ef71ef64c4784753",
	} {
		b, _ := hex.DecodeString(salt)
		sum := hash(0, append(b, "password"...), Count(255))
		if hex.EncodeToString(sum[:16]) != want {
			t.Errorf("%s: %x, not %s", salt, sum[:16], want)
		}
		refuses(t, specifier(string(b), 255), []byte("password"), 16, api.ErrLong)
	}
}

// Keys of each number of bytes: a longer one begins as a shorter one.
func TestP13_1DeriveSizes(t *testing.T) {
	for _, pass := range []string{"", "p", "pass", strings.Repeat("long", 250)} {
		var last []byte
		for n := 1; n <= 64; n++ {
			key := derives(t, specifier(salt, 3), []byte(pass), n)
			if !bytes.Equal(key[:n-1], last) {
				t.Errorf("%d bytes %x, behind %x", n, key, last)
			}
			last = key
		}
	}
}

// What is behind the first 32 bytes is another hash, with one nought ahead.
func TestP13_1DeriveSecondHash(t *testing.T) {
	for _, n := range []int{31, 32, 33, 34, 63, 64} {
		for _, code := range []byte{0, 7, 112} {
			pass := []byte("correct horse")
			text := append([]byte(salt), pass...)
			first, second := modelledHash(0, text, counted(code)), modelledHash(1, text, counted(code))
			key := derives(t, specifier(salt, code), pass, n)
			if !bytes.Equal(key[:min(n, 32)], first[:min(n, 32)]) {
				t.Errorf("%d bytes begin with %x, not %x", n, key[:min(n, 32)], first)
			}
			if n > 32 && !bytes.Equal(key[32:], second[:n-32]) {
				t.Errorf("%d bytes end in %x, not in bytes of %x", n, key[32:], second)
			}
			if bytes.Equal(first[:], second[:]) {
				t.Errorf("%x twice", first)
			}
		}
	}
}

// Passphrases of each number of bytes; of none, nil or not.
func TestP13_1DerivePassSizes(t *testing.T) {
	for n := range 1001 {
		derives(t, specifier(salt, 0), filled(n), 1+n%64)
	}
	for _, code := range []byte{0, 15, 16, 111, 112} {
		for _, n := range []int{0, 1, 2, 7, 8, 9, 55, 56, 64, 999, 1000} {
			derives(t, specifier(salt, code), filled(n), 64)
		}
	}
	for n := 1; n <= 64; n++ {
		none, empty := derives(t, specifier(salt, 0), nil, n), derives(t, specifier(salt, 0), []byte{}, n)
		if !bytes.Equal(none, empty) {
			t.Errorf("%x of nil, %x of no bytes", none, empty)
		}
	}
}

// A count need not be a multiple of the number of bytes of salt and passphrase; the last time is then cut off.
func TestP13_1DeriveMultiples(t *testing.T) {
	whole, cut := 0, 0
	for code := range 113 {
		for _, size := range []int{8, 9, 12, 16, 17, 31, 32, 64, 100, 124, 128, 496, 512, 544, 992, 1000, 1008} {
			derives(t, specifier(salt, byte(code)), filled(size-8), 33)
			if counted(byte(code))%size == 0 {
				whole++
			} else {
				cut++
			}
		}
	}
	if whole < 100 || cut < 100 {
		t.Errorf("%d multiples, %d others", whole, cut)
	}
	// All that is taken is bytes of the salt: the passphrase would be the byte behind them.
	const eight = "8 bytes!"
	if bytes.Equal(derives(t, specifier(eight, 0), nil, 32), derives(t, specifier(eight, 0), []byte{0}, 32)) {
		t.Error("a nought is no passphrase")
	}
}

// Salt and passphrase are taken once whatever the count is, and whole; one byte more of the count begins them anew.
func TestP13_1HashAtLeastOnce(t *testing.T) {
	for _, size := range []int{8, 9, 55, 64, 100, 1008, 5000} {
		text := filled(size)
		for i := range 3 {
			once := hash(i, text, size)
			for _, count := range []int{0, 1, 7, size / 2, size - 1, size, size + 1, 2*size - 1, 2 * size, 2*size + 1, 10 * size} {
				sum := hash(i, text, count)
				if want := modelledHash(i, text, count); sum != want {
					t.Errorf("%d: %d of %d bytes: %x, not %x", i, count, size, sum, want)
				}
				if (sum == once) != (count <= size) {
					t.Errorf("%d: %d of %d bytes: %x, and once %x", i, count, size, sum, once)
				}
			}
		}
	}
	// With what Derive takes, no count is below that number.
	if Count(0) < 8+maxPass {
		t.Error("a count is below the number of bytes of salt and passphrase: try it by Derive too")
	}
}

// The greatest count that is allowed, the next one, and all above it.
func TestP13_1DeriveCounts(t *testing.T) {
	keys := map[string]int{}
	for code := range 256 {
		spec := specifier(salt, byte(code))
		for _, pass := range []string{"", "p", "pass"} {
			if code <= 112 {
				keys[string(derives(t, spec, []byte(pass), 64))]++
			} else {
				refuses(t, spec, []byte(pass), 64, api.ErrLong)
			}
		}
	}
	if len(keys) != 3*113 {
		t.Errorf("%d keys of 113 codes and 3 passphrases", len(keys))
	}
}

// Each bit of salt, of code and of passphrase makes another key; also in the last 32 bytes alone.
func TestP13_1DeriveOthers(t *testing.T) {
	firsts, lasts, tried := map[string]int{}, map[string]int{}, 0
	try := func(spec, pass []byte) {
		t.Helper()
		key := derives(t, spec, pass, 64)
		firsts[string(key[:32])]++
		lasts[string(key[32:])]++
		tried++
	}
	pass := []byte("passphrase")
	try(specifier(salt, 5), pass)
	for bit := range 64 {
		spec := specifier(salt, 5)
		spec[2+bit/8] ^= 1 << (bit % 8)
		try(spec, pass)
	}
	for bit := range 7 {
		if code := byte(5 ^ 1<<bit); code <= 112 {
			try(specifier(salt, code), pass)
		}
	}
	for bit := range 8 * len(pass) {
		other := slices.Clone(pass)
		other[bit/8] ^= 1 << (bit % 8)
		try(specifier(salt, 5), other)
	}
	for n := range len(pass) {
		try(specifier(salt, 5), pass[:n])
	}
	for _, more := range []string{"\x00", " ", "\n", "e", "passphrase"} {
		try(specifier(salt, 5), append(slices.Clone(pass), more...))
	}
	try(specifier("passphra", 5), []byte("se"+salt))
	if len(firsts) != tried || len(lasts) != tried {
		t.Errorf("%d and %d keys of %d", len(firsts), len(lasts), tried)
	}
}

// The salt is ahead of the passphrase, and what is hashed is both again and again: where that is the same, the key is.
func TestP13_1DeriveSaltAhead(t *testing.T) {
	one := derives(t, specifier("abcdefgh", 0), []byte("ijklmnop"), 32)
	if bytes.Equal(one, derives(t, specifier("ijklmnop", 0), []byte("abcdefgh"), 32)) {
		t.Error("salt and passphrase are one for the other")
	}
	once := derives(t, specifier("abcdefgh", 0), nil, 64)
	twice := derives(t, specifier("abcdefgh", 0), []byte("abcdefgh"), 64)
	if !bytes.Equal(once, twice) {
		t.Errorf("%x of the same bytes as %x", twice, once)
	}
}

// A passphrase's bytes are taken as they are, whatever they are.
func TestP13_1DeriveEachByte(t *testing.T) {
	keys := map[string]int{}
	for c := range 256 {
		keys[string(derives(t, specifier(salt, 0), []byte{byte(c)}, 32))]++
		keys[string(derives(t, specifier(strings.Repeat(string([]byte{byte(c)}), 8), 1), []byte{'x', byte(c), byte(c)}, 32))]++
	}
	if len(keys) != 512 {
		t.Errorf("%d keys of 512", len(keys))
	}
}

// drawn answers a drawn specifier, whole or not, and whatever is behind it.
func drawn(r *rand.Rand) []byte {
	b := make([]byte, r.IntN(16))
	for i := range b {
		b[i] = byte(r.Uint32())
	}
	for i, c := range []byte{3, 8} {
		if i < len(b) && r.IntN(8) > 0 {
			b[i] = c
		}
	}
	if len(b) > 10 && r.IntN(4) > 0 {
		b[10] %= 100
	}
	return b
}

func TestP13_1DeriveDrawn(t *testing.T) {
	r := rand.New(rand.NewPCG(13, 1))
	told := map[api.Errno]int{}
	for range 4000 {
		spec, pass, n := drawn(r), filled(r.IntN(1010)), r.IntN(68)-1
		want, wantSize, wantErr := modelled(spec, pass, n)
		key, size, e := Derive(spec, pass, n)
		if e != wantErr || size != wantSize || !bytes.Equal(key, want) {
			t.Fatalf("%x, %x, %d: %x, %d, %v, not %x, %d, %v", spec, pass, n, key, size, e, want, wantSize, wantErr)
		}
		told[e]++
	}
	for _, e := range []api.Errno{api.OK, api.ErrArg, api.ErrForm, api.ErrKind, api.ErrLong} {
		if told[e] < 50 {
			t.Errorf("%v: told %d times", e, told[e])
		}
	}
}
