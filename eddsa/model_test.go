package eddsa

import (
	"crypto/ed25519"
	"crypto/sha512"
	"math/big"
	"slices"
	"testing"

	"postilion/api"
	"postilion/point"
)

// sample answers n bytes that differ from place to place and from seed to seed.
func sample(seed uint32, n int) []byte {
	b := make([]byte, n)
	x := seed*2654435761 + 12345
	for i := range b {
		x = x*1664525 + 1013904223
		b[i] = byte(x >> 24)
	}
	return b
}

// sampleSeed answers a seed.
func sampleSeed(n uint32) [32]byte {
	return [32]byte(sample(n, 32))
}

// full answers 32 bytes 255.
func full() [32]byte {
	return [32]byte(slices.Repeat([]byte{255}, 32))
}

// seeds answers one of noughts, one of 32 bytes 255, and n others.
func seeds(n int) [][32]byte {
	all := [][32]byte{{}, full()}
	for i := range n {
		all = append(all, sampleSeed(uint32(i)))
	}
	return all
}

// power2 answers 2^n and d.
func power2(n uint, d int64) *big.Int {
	v := new(big.Int).Lsh(big.NewInt(1), n)
	return v.Add(v, big.NewInt(d))
}

// order answers L taken k times, and d.
func order(k, d int64) *big.Int {
	v, _ := new(big.Int).SetString("27742317777372353535851937790883648493", 10)
	v.Add(v, power2(252, 0))
	v.Mul(v, big.NewInt(k))
	return v.Add(v, big.NewInt(d))
}

// prime answers p of the points' coordinates, and d.
func prime(d int64) *big.Int {
	return power2(255, d-19)
}

// bytes32 answers a number below 2^256 as bytes, little-endian.
func bytes32(v *big.Int) [32]byte {
	var b [32]byte
	v.FillBytes(b[:])
	slices.Reverse(b[:])
	return b
}

func small(n int64) [32]byte {
	return bytes32(big.NewInt(n))
}

// signed answers the bytes of a number below 2^255, with the highest bit.
func signed(v *big.Int) [32]byte {
	b := bytes32(v)
	b[31] |= 128
	return b
}

// value answers the number that the bytes are.
func value(b []byte) *big.Int {
	b = slices.Clone(b)
	slices.Reverse(b)
	return new(big.Int).SetBytes(b)
}

// theirs answers the library's key of a seed.
func theirs(seed [32]byte) ed25519.PrivateKey {
	return ed25519.NewKeyFromSeed(seed[:])
}

// joined answers a signature's 64 bytes.
func joined(first, second [32]byte) [64]byte {
	return [64]byte(slices.Concat(first[:], second[:]))
}

// holds answers whether the equation does: the library asks for no more than that, and for a canonical S, if the public key is a point.
func holds(public [32]byte, message []byte, sig [64]byte) bool {
	return ed25519.Verify(public[:], message, sig[:])
}

// wanted answers what the chapter's words make of a signature.
func wanted(public [32]byte, message []byte, sig [64]byte) api.Errno {
	if point.Check(public) != api.OK || slices.Contains(eight(), public) {
		return api.ErrForm
	}
	if value(sig[32:]).Cmp(order(1, 0)) >= 0 {
		return api.ErrForm
	}
	if !holds(public, message, sig) {
		return api.ErrSig
	}
	return api.OK
}

// check holds Verify to what is wanted, and that to the chapter's words.
func check(t *testing.T, what string, public [32]byte, message []byte, sig [64]byte, want api.Errno) {
	t.Helper()
	if got := Verify(public, message, sig); got != want {
		t.Errorf("%s: %v, not %v: %x, %x, %x", what, got, want, public, message, sig)
	}
	if model := wanted(public, message, sig); model != want {
		t.Errorf("%s: the test asks for %v, and the words for %v: %x, %x, %x", what, want, model, public, message, sig)
	}
}

// k answers the number that ties R, A and a message, modulo L.
func k(first, public [32]byte, message []byte) *big.Int {
	h := sha512.Sum512(slices.Concat(first[:], public[:], message))
	v := value(h[:])
	return v.Mod(v, order(1, 0))
}

// secondFor answers S = r + k * s modulo L.
func secondFor(r, k, s *big.Int) [32]byte {
	v := new(big.Int).Mul(k, s)
	v.Add(v, r)
	return bytes32(v.Mod(v, order(1, 0)))
}

// numberOf answers a number from 1 to L - 1.
func numberOf(n uint32) *big.Int {
	v := value(sample(n, 64))
	v.Mod(v, order(1, -1))
	return v.Add(v, big.NewInt(1))
}

// plus answers the sum of points.
func plus(all ...[32]byte) [32]byte {
	sum := point.Zero()
	for _, p := range all {
		sum, _ = point.Add(sum, p)
	}
	return sum
}

// eight answers the points of small order: the multiples of one of order 8, Zero first.
func eight() [][32]byte {
	one, _ := new(big.Int).SetString("05fc536d880238b13933c6d305acdfd5f098eff289f4c345b027b2c28f95e826", 16)
	three, _ := new(big.Int).SetString("7a03ac9277fdc74ec6cc392cfa53202a0f67100d760b3cba4fd84d3d706a17c7", 16)
	return [][32]byte{
		small(1), bytes32(one), small(0), bytes32(three),
		bytes32(prime(-1)), signed(three), signed(new(big.Int)), signed(one),
	}
}

// A twin is bytes that would be a point's, if these were not asked to be canonical, with that point's bytes.
type twin struct {
	bytes, point [32]byte
}

// twins answers the other bytes of points of small order.
func twins() []twin {
	zero, minus, i := small(1), bytes32(prime(-1)), small(0)
	return []twin{
		{bytes32(prime(1)), zero}, {signed(prime(1)), zero}, {signed(big.NewInt(1)), zero},
		{signed(prime(-1)), minus},
		{bytes32(prime(0)), i}, {signed(prime(0)), signed(new(big.Int))},
	}
}

// noPoints answers bytes that are no point, for each reason that layer 6 names.
func noPoints() [][32]byte {
	all := [][32]byte{
		small(2), signed(big.NewInt(2)), bytes32(prime(-2)), signed(prime(-2)),
		bytes32(prime(3)), signed(prime(3)), bytes32(prime(18)), full(),
	}
	for _, c := range twins() {
		all = append(all, c.bytes)
	}
	return all
}
