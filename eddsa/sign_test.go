package eddsa

import (
	"bytes"
	"crypto/ed25519"
	"slices"
	"testing"

	"postilion/api"
	"postilion/point"
	"postilion/scalar"
)

// lengths answers those up to behind the second block of SHA-512, with what stands ahead of a message (32 bytes, 64) and without; and longer ones.
func lengths() []int {
	var all []int
	for n := range 265 {
		all = append(all, n)
	}
	for _, blocks := range []int{3, 8} {
		for _, ahead := range []int{0, 32, 64} {
			end := 128*blocks - ahead
			all = append(all, end-17, end-16, end-1, end, end+1)
		}
	}
	return append(all, 1023, 4096, 10000)
}

func checkPublic(t *testing.T, seed [32]byte) {
	t.Helper()
	if got, want := Public(seed), theirs(seed)[32:]; !bytes.Equal(got[:], want) {
		t.Errorf("Public %x: %x, not %x", seed, got, want)
	}
}

func checkSign(t *testing.T, seed [32]byte, message []byte) {
	t.Helper()
	if got, want := Sign(seed, message), ed25519.Sign(theirs(seed), message); !bytes.Equal(got[:], want) {
		t.Errorf("Sign %x, %d bytes: %x, not %x", seed, len(message), got, want)
	}
}

func TestP7_1PublicKnown(t *testing.T) {
	for _, v := range vectors(t) {
		if got := Public(v.seed); got != v.public {
			t.Errorf("%s: %x, not %x", v.name, got, v.public)
		}
	}
}

func TestP7_1SignKnown(t *testing.T) {
	for _, v := range vectors(t) {
		if got := Sign(v.seed, v.message); got != v.sig {
			t.Errorf("%s: %x, not %x", v.name, got, v.sig)
		}
	}
}

func TestP7_1Public(t *testing.T) {
	for _, seed := range seeds(200) {
		checkPublic(t, seed)
	}
}

// Each byte of the seed is asked, and each of its bits.
func TestP7_1PublicOfEachBit(t *testing.T) {
	var seed [32]byte
	seen := map[[32]byte]int{Public(seed): -1}
	for i := range 256 {
		seed[i/8] ^= 1 << (i % 8)
		checkPublic(t, seed)
		public := Public(seed)
		if other, found := seen[public]; found {
			t.Errorf("the bits %d and %d have one public key", i, other)
		}
		seen[public] = i
		seed[i/8] ^= 1 << (i % 8)
	}
}

func TestP7_1Sign(t *testing.T) {
	for i, n := range lengths() {
		checkSign(t, sampleSeed(uint32(i)), sample(uint32(n), n))
	}
	for i, seed := range seeds(100) {
		checkSign(t, seed, sample(uint32(i), i))
	}
	for _, seed := range seeds(0) {
		for _, n := range []int{0, 1, 47, 48, 63, 64, 79, 80, 95, 96, 128, 200} {
			checkSign(t, seed, sample(9, n))
			checkSign(t, seed, make([]byte, n))
			checkSign(t, seed, bytes.Repeat([]byte{255}, n))
		}
	}
}

func TestP7_1SignNothing(t *testing.T) {
	for _, seed := range seeds(5) {
		want := [64]byte(ed25519.Sign(theirs(seed), nil))
		for _, message := range [][]byte{nil, {}, make([]byte, 0, 9), sample(1, 9)[:0]} {
			if got := Sign(seed, message); got != want {
				t.Errorf("Sign %x of nothing: %x, not %x", seed, got, want)
			}
		}
	}
}

func TestP7_1SignLong(t *testing.T) {
	for _, n := range []int{1<<16 - 32, 1<<16 + 1, 1<<21 + 5} {
		checkSign(t, sampleSeed(uint32(n)), sample(7, n))
	}
}

// Another byte, at any place of the seed or of the message, makes both halves others.
func TestP7_1SignAnother(t *testing.T) {
	seed, message := sampleSeed(3), sample(4, 150)
	was := Sign(seed, message)
	differs := func(what string, at int, sig [64]byte) {
		t.Helper()
		if bytes.Equal(sig[:32], was[:32]) || bytes.Equal(sig[32:], was[32:]) {
			t.Errorf("another byte %d of the %s: %x", at, what, sig)
		}
	}
	for i := range seed {
		seed[i]++
		differs("seed", i, Sign(seed, message))
		seed[i]--
	}
	for i := range message {
		message[i]++
		differs("message", i, Sign(seed, message))
		message[i]--
	}
	differs("message, a new one,", len(message), Sign(seed, append(message, 0)))
	differs("message, one less,", len(message), Sign(seed, message[:len(message)-1]))
}

func TestP7_3SignedIsVerified(t *testing.T) {
	for i, n := range lengths() {
		seed, message := sampleSeed(uint32(i)), sample(uint32(n), n)
		check(t, "signed", Public(seed), message, Sign(seed, message), api.OK)
	}
	for i, seed := range seeds(100) {
		check(t, "signed", Public(seed), sample(5, i), Sign(seed, sample(5, i)), api.OK)
		check(t, "signed nothing", Public(seed), nil, Sign(seed, []byte{}), api.OK)
		check(t, "signed nothing", Public(seed), []byte{}, Sign(seed, nil), api.OK)
	}
	seed, message := sampleSeed(77), sample(8, 1<<20+3)
	check(t, "signed much", Public(seed), message, Sign(seed, message), api.OK)
}

// The halves are what each signature has to be: a point and a canonical number; and so is the public key.
func TestP7_3Halves(t *testing.T) {
	for i, seed := range seeds(100) {
		sig, public := Sign(seed, sample(6, i)), Public(seed)
		if point.Check([32]byte(sig[:32])) != api.OK || !scalar.Canonical([32]byte(sig[32:])) {
			t.Errorf("%x", sig)
		}
		if yes, e := point.Small(public); yes || e != api.OK {
			t.Errorf("the public key %x", public)
		}
	}
}

// What is handed in stays as it is, what lies ahead of it and behind it too; and the same is answered again, whatever is asked between.
func TestP7_1LeftAsItWas(t *testing.T) {
	for i, n := range []int{0, 1, 47, 63, 64, 79, 95, 96, 128, 300} {
		array := sample(uint32(i), n+400)
		kept := bytes.Clone(array)
		seed := sampleSeed(uint32(i))
		message := array[100 : 100+n]
		public, sig := Public(seed), Sign(seed, message)
		if !bytes.Equal(array, kept) || seed != sampleSeed(uint32(i)) {
			t.Errorf("%d bytes: Sign changed what it was given", n)
		}
		Sign(full(), []byte("between"))
		Public(full())
		if Public(seed) != public || Sign(seed, message) != sig || Sign(seed, slices.Clip(bytes.Clone(message))) != sig {
			t.Errorf("%d bytes: not the same again", n)
		}
		// What was signed is not asked again: its owner may change it.
		clear(array)
		if e := Verify(public, kept[100:100+n], sig); e != api.OK {
			t.Errorf("%d bytes: %v", n, e)
		}
	}
}
