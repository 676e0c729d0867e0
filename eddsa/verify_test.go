package eddsa

import (
	"bytes"
	"crypto/ed25519"
	"math/big"
	"testing"

	"postilion/api"
	"postilion/point"
)

func TestP7_2Known(t *testing.T) {
	for _, v := range vectors(t) {
		check(t, v.name, v.public, v.message, v.sig, api.OK)
		check(t, v.name+", and a byte", v.public, append(bytes.Clone(v.message), 0), v.sig, api.ErrSig)
		if n := len(v.message); n > 0 {
			check(t, v.name+", less a byte", v.public, v.message[:n-1], v.sig, api.ErrSig)
		}
	}
}

// Signatures of the library's are verified as this package's are.
func TestP7_2Theirs(t *testing.T) {
	for i, n := range lengths() {
		seed, message := sampleSeed(uint32(i)+500), sample(uint32(n), n)
		key := theirs(seed)
		sig, public := [64]byte(ed25519.Sign(key, message)), [32]byte(key[32:])
		check(t, "theirs", public, message, sig, api.OK)
		check(t, "theirs, and a byte", public, append(bytes.Clone(message), 0), sig, api.ErrSig)
		if n > 0 {
			message[0]++
			check(t, "theirs, another first byte", public, message, sig, api.ErrSig)
			message[0]--
			message[n-1] ^= 128
			check(t, "theirs, another last byte", public, message, sig, api.ErrSig)
		}
	}
}

func TestP7_2Nothing(t *testing.T) {
	for _, seed := range seeds(5) {
		public, sig := Public(seed), Sign(seed, nil)
		for _, message := range [][]byte{nil, {}, make([]byte, 0, 9), sample(1, 9)[:0]} {
			check(t, "nothing", public, message, sig, api.OK)
		}
		check(t, "a nought", public, []byte{0}, sig, api.ErrSig)
		check(t, "no signature", public, nil, [64]byte{}, api.ErrSig)
	}
}

// turns answers what a byte is turned by: each bit alone, and all of them.
func turns() []byte {
	return []byte{1, 2, 4, 8, 16, 32, 64, 128, 255}
}

// Another byte of the public key: it is no point then, or the key of somebody else.
func TestP7_2AnotherPublicByte(t *testing.T) {
	seed, message := sampleSeed(20), sample(20, 60)
	public, sig := Public(seed), Sign(seed, message)
	count := map[api.Errno]int{}
	for i := range public {
		for _, turn := range turns() {
			other := public
			other[i] ^= turn
			want := api.ErrSig
			if point.Check(other) != api.OK {
				want = api.ErrForm
			}
			check(t, "another byte of the public key", other, message, sig, want)
			count[want]++
		}
	}
	if count[api.ErrForm] < 50 || count[api.ErrSig] < 50 {
		t.Errorf("too few of a kind: %v", count)
	}
}

func TestP7_2AnotherMessageByte(t *testing.T) {
	for _, n := range []int{1, 2, 63, 64, 65, 130} {
		seed, message := sampleSeed(uint32(n)), sample(21, n)
		public, sig := Public(seed), Sign(seed, message)
		for i := range message {
			for _, turn := range []byte{1, 128, 255} {
				other := bytes.Clone(message)
				other[i] ^= turn
				check(t, "another byte of the message", public, other, sig, api.ErrSig)
			}
		}
	}
}

func TestP7_2AnotherFirstByte(t *testing.T) {
	seed, message := sampleSeed(22), sample(22, 60)
	public, sig := Public(seed), Sign(seed, message)
	for i := range 32 {
		for _, turn := range turns() {
			other := sig
			other[i] ^= turn
			check(t, "another byte of R", public, message, other, api.ErrSig)
		}
	}
}

func TestP7_2AnotherSecondByte(t *testing.T) {
	seed, message := sampleSeed(23), sample(23, 60)
	public, sig := Public(seed), Sign(seed, message)
	count := map[api.Errno]int{}
	for i := 32; i < 64; i++ {
		for _, turn := range turns() {
			other := sig
			other[i] ^= turn
			want := api.ErrSig
			if value(other[32:]).Cmp(order(1, 0)) >= 0 {
				want = api.ErrForm
			}
			check(t, "another byte of S", public, message, other, want)
			count[want]++
		}
	}
	if count[api.ErrForm] < 3 || count[api.ErrSig] < 200 {
		t.Errorf("too few of a kind: %v", count)
	}
}

// Somebody else's key, another message's signature, halves of two signatures, or the halves in each other's place.
func TestP7_2Exchanged(t *testing.T) {
	one, two, message, other := sampleSeed(30), sampleSeed(31), sample(30, 70), sample(31, 70)
	sig := Sign(one, message)
	check(t, "another key", Public(two), message, sig, api.ErrSig)
	check(t, "another message", Public(one), other, sig, api.ErrSig)
	for _, wrong := range [][64]byte{Sign(two, message), Sign(one, other)} {
		check(t, "another first half", Public(one), message, joined([32]byte(wrong[:32]), [32]byte(sig[32:])), api.ErrSig)
		check(t, "another second half", Public(one), message, joined([32]byte(sig[:32]), [32]byte(wrong[32:])), api.ErrSig)
	}
	check(t, "the public key for R", Public(one), message, joined(Public(one), [32]byte(sig[32:])), api.ErrSig)
	swapped := joined([32]byte(sig[32:]), [32]byte(sig[:32]))
	check(t, "halves exchanged", Public(one), message, swapped, wanted(Public(one), message, swapped))
}

// S and L, as often as 32 bytes have room for it: the same number modulo L, and the equation would hold.
func TestP7_2MoreThanL(t *testing.T) {
	for i, seed := range seeds(20) {
		message := sample(40, i)
		public, sig := Public(seed), Sign(seed, message)
		check(t, "S", public, message, sig, api.OK)
		s := value(sig[32:])
		for times := int64(1); times <= 15; times++ {
			more := new(big.Int).Add(s, order(times, 0))
			if more.BitLen() > 256 {
				continue
			}
			check(t, "S and L", public, message, joined([32]byte(sig[:32]), bytes32(more)), api.ErrForm)
		}
	}
}

func TestP7_2SecondEdges(t *testing.T) {
	seed, message := sampleSeed(41), sample(41, 40)
	public, sig := Public(seed), Sign(seed, message)
	minus, _ := point.Neg(point.Generator())
	for _, c := range []struct {
		s    *big.Int
		want api.Errno
	}{
		{new(big.Int), api.ErrSig}, {big.NewInt(1), api.ErrSig},
		{power2(252, -1), api.ErrSig}, {power2(252, 0), api.ErrSig},
		{order(1, -2), api.ErrSig}, {order(1, -1), api.ErrSig},
		{order(1, 0), api.ErrForm}, {order(1, 1), api.ErrForm}, {order(1, 2), api.ErrForm},
		{order(2, -1), api.ErrForm}, {order(2, 0), api.ErrForm}, {order(15, 0), api.ErrForm},
		{power2(253, -1), api.ErrForm}, {power2(253, 0), api.ErrForm}, {power2(254, 0), api.ErrForm},
		{power2(255, 0), api.ErrForm}, {power2(256, -1), api.ErrForm},
	} {
		// Base(S) is what the equation would ask for, if the public key were left out.
		for _, first := range [][32]byte{[32]byte(sig[:32]), {}, full(), point.Zero(), point.Generator(), minus, point.Base(bytes32(c.s))} {
			check(t, "S at an edge", public, message, joined(first, bytes32(c.s)), c.want)
		}
	}
}

func TestP7_2NoPoint(t *testing.T) {
	seed, message := sampleSeed(50), sample(50, 40)
	sig := Sign(seed, message)
	first := [32]byte(sig[:32])
	for _, public := range noPoints() {
		for _, other := range [][64]byte{
			sig, {}, joined(first, full()), joined(first, bytes32(order(1, 0))), joined(public, small(0)), joined(point.Zero(), small(0)),
		} {
			check(t, "no point", public, message, other, api.ErrForm)
		}
	}
}

// Other bytes of Zero for a public key, and signatures whose equation would hold, were they read as that point.
func TestP7_2OtherBytesOfZero(t *testing.T) {
	for _, c := range twins()[:3] {
		for n := range uint32(10) {
			r := bytes32(numberOf(n))
			check(t, "other bytes of Zero", c.bytes, sample(n, 9), joined(point.Base(r), r), api.ErrForm)
		}
	}
}

// The tests' eight are the multiples of one of order 8, each once.
func TestP7_2Eight(t *testing.T) {
	all := eight()
	next := point.Zero()
	for i, p := range all {
		if p != next || i > 0 && p == point.Zero() {
			t.Errorf("%d times the eighth: %x, not %x", i, next, p)
		}
		next = plus(next, all[1])
	}
	if next != point.Zero() {
		t.Errorf("8 times the eighth: %x", next)
	}
}

func TestP7_2SmallKeys(t *testing.T) {
	seed, message := sampleSeed(51), sample(51, 40)
	sig := Sign(seed, message)
	first := [32]byte(sig[:32])
	for _, public := range eight() {
		for _, other := range [][64]byte{
			sig, {}, joined(first, full()), joined(first, bytes32(order(1, 0))), joined(public, small(0)), joined(point.Zero(), small(0)),
			joined(first, bytes32(new(big.Int).Add(value(sig[32:]), order(1, 0)))), joined(full(), small(5)),
		} {
			check(t, "a key of small order", public, message, other, api.ErrForm)
		}
	}
}

// With a public key of small order, everybody finds messages with which the equation holds.
func TestP7_2SmallKeysThatHold(t *testing.T) {
	for i, public := range eight() {
		for j, part := range eight() {
			found := 0
			for n := uint32(0); found < 1 && n < 60; n++ {
				r, message := numberOf(n), sample(n, 20)
				first := plus(point.Base(bytes32(r)), part)
				sig := joined(first, bytes32(r))
				if !holds(public, message, sig) {
					continue
				}
				found++
				check(t, "a key of small order, and it holds", public, message, sig, api.ErrForm)
				check(t, "a key of small order, and S and L", public, message, joined(first, bytes32(new(big.Int).Add(r, order(1, 0)))), api.ErrForm)
			}
			// A multiple of i times the eighth is to be j times it.
			if possible := j%greatest(i) == 0; possible != (found > 0) {
				t.Errorf("the key %d, R's part %d: %d found", i, j, found)
			}
		}
	}
}

// greatest answers the greatest divisor of 8 that divides i.
func greatest(i int) int {
	for _, d := range []int{8, 4, 2} {
		if i%d == 0 {
			return d
		}
	}
	return 1
}

// An R that is no point is no R, whatever S is; and it is no fault of its form.
func TestP7_2FirstNoPoint(t *testing.T) {
	for i, first := range noPoints() {
		s := numberOf(uint32(i))
		public, message := point.Base(bytes32(s)), sample(uint32(i), 30)
		second := secondFor(new(big.Int), k(first, public, message), s)
		for _, c := range [][32]byte{second, small(0), small(1), bytes32(order(1, -1))} {
			check(t, "R is no point", public, message, joined(first, c), api.ErrSig)
		}
		check(t, "R is no point, and S not canonical", public, message, joined(first, bytes32(order(1, 0))), api.ErrForm)
	}
}

// Zero is an R as good as another one, if the equation asks for it; other bytes of it are none, though k be made of them.
func TestP7_2FirstZero(t *testing.T) {
	for n := range uint32(20) {
		s, message := numberOf(n), sample(n, int(n))
		public := point.Base(bytes32(s))
		for i, first := range eight() {
			want := api.ErrSig
			if i == 0 {
				want = api.OK
			}
			second := secondFor(new(big.Int), k(first, public, message), s)
			check(t, "R of small order", public, message, joined(first, second), want)
		}
		for _, c := range twins() {
			second := secondFor(new(big.Int), k(c.bytes, public, message), s)
			check(t, "other bytes of an R of small order", public, message, joined(c.bytes, second), api.ErrSig)
			ofThePoint := secondFor(new(big.Int), k(c.point, public, message), s)
			check(t, "other bytes of an R of small order, k of its own", public, message, joined(c.bytes, ofThePoint), api.ErrSig)
		}
	}
}

// With a key of which a part is of small order, R of small order is each of the eight, if the equation asks for it.
func TestP7_2MixedKeysFirstSmall(t *testing.T) {
	s := numberOf(60)
	public := plus(point.Base(bytes32(s)), eight()[1])
	for i, first := range eight() {
		count := map[api.Errno]int{}
		for n := range uint32(80) {
			message := sample(n, 12)
			ties := k(first, public, message)
			want := api.ErrSig
			if (lowest(ties)+i)%8 == 0 {
				want = api.OK
			}
			check(t, "a mixed key, R of small order", public, message, joined(first, secondFor(new(big.Int), ties, s)), want)
			count[want]++
		}
		if count[api.OK] == 0 || count[api.ErrSig] == 0 {
			t.Errorf("R is %d times the eighth: %v", i, count)
		}
	}
}

// lowest answers the number modulo 8.
func lowest(v *big.Int) int {
	return int(new(big.Int).And(v, big.NewInt(7)).Int64())
}

// Other bytes of the R that a mixed key's equation asks for, k being made of these bytes.
func TestP7_2MixedKeysOtherBytes(t *testing.T) {
	s := numberOf(61)
	public := plus(point.Base(bytes32(s)), eight()[1])
	for _, c := range twins() {
		found := 0
		for n := range uint32(80) {
			message := sample(n, 12)
			ties := k(c.bytes, public, message)
			second := secondFor(new(big.Int), ties, s)
			check(t, "a mixed key, other bytes of R", public, message, joined(c.bytes, second), api.ErrSig)
			if eight()[(8-lowest(ties))%8] == c.point {
				found++
			}
		}
		if found == 0 {
			t.Errorf("%x: it is never asked for", c.point)
		}
	}
}

// A public key that is the sum of a point of large order and one of the eight is a point, and not small: it is asked as it is, k times, k below L and not taken away from L.
func TestP7_2MixedKeys(t *testing.T) {
	for i, part := range eight() {
		s := numberOf(uint32(i) + 70)
		public := plus(point.Base(bytes32(s)), part)
		for j, other := range eight() {
			count := map[api.Errno]int{}
			for n := range uint32(16) {
				r, message := numberOf(n+100), sample(n, 33)
				first := plus(point.Base(bytes32(r)), other)
				ties := k(first, public, message)
				want := api.ErrSig
				if (lowest(ties)*i+j)%8 == 0 {
					want = api.OK
				}
				check(t, "a mixed key", public, message, joined(first, secondFor(r, ties, s)), want)
				count[want]++
			}
			if i == 0 && count[api.ErrSig] > 0 != (j > 0) {
				t.Errorf("no part of small order in the key, %d in R: %v", j, count)
			}
		}
	}
}

// A seed's own R, with one of the eight beside it: the equation taken 8 times would hold.
func TestP7_2FirstWithSmallPart(t *testing.T) {
	s := numberOf(80)
	public := point.Base(bytes32(s))
	for i, part := range eight() {
		r, message := numberOf(uint32(i)+81), sample(uint32(i), 20)
		first := plus(point.Base(bytes32(r)), part)
		second := secondFor(r, k(first, public, message), s)
		want := api.ErrSig
		if i == 0 {
			want = api.OK
		}
		check(t, "R with a part of small order", public, message, joined(first, second), want)
	}
}

// The generator for a public key, and the point that is Zero with it; R is one of them, or Zero.
func TestP7_2KeysOfOne(t *testing.T) {
	message := sample(90, 20)
	keys := map[int64][32]byte{0: point.Zero(), 1: point.Generator()}
	keys[-1], _ = point.Neg(point.Generator())
	for r, first := range keys {
		for _, s := range []int64{1, -1} {
			second := secondFor(big.NewInt(r), k(first, keys[s], message), big.NewInt(s))
			check(t, "a key of one", keys[s], message, joined(first, second), api.OK)
		}
	}
}

func TestP7_2Samples(t *testing.T) {
	for n := range uint32(400) {
		public, sig := sampleSeed(3*n), [64]byte(sample(3*n+1, 64))
		if n%2 == 0 {
			sig[63] &= 15
		}
		want := api.ErrSig
		if point.Check(public) != api.OK || value(sig[32:]).Cmp(order(1, 0)) >= 0 {
			want = api.ErrForm
		}
		check(t, "a sample", public, sample(n, int(n)), sig, want)
	}
}

// What is handed in stays as it is, what lies ahead of it and behind it too; and the same is answered again, whatever is asked between.
func TestP7_2LeftAsItWas(t *testing.T) {
	for i, n := range []int{0, 1, 47, 63, 64, 128, 300} {
		array := sample(uint32(i), n+400)
		kept := bytes.Clone(array)
		message := array[100 : 100+n]
		seed := sampleSeed(uint32(i))
		public, sig := Public(seed), Sign(seed, message)
		wrong := sig
		wrong[0]++
		publicWas, sigWas, wrongWas := public, sig, wrong
		for range 2 {
			check(t, "as before", public, message, sig, api.OK)
			check(t, "as before", public, message, wrong, api.ErrSig)
			check(t, "as before", small(2), message, sig, api.ErrForm)
		}
		if !bytes.Equal(array, kept) || public != publicWas || sig != sigWas || wrong != wrongWas {
			t.Errorf("%d bytes: Verify changed what it was given", n)
		}
	}
}
