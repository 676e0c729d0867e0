package xdh

import (
	"math/big"
	"testing"

	"postilion/api"
	"postilion/field"
	"postilion/point"
)

// By doubling and adding, which knows nothing of the ladder.
func TestP8_1Model(t *testing.T) {
	curve, twist := points(12)
	all := append(curve, twist...)
	for i, secret := range secrets(5) {
		for j := range 12 {
			u := all[(5*i+7*j)%len(all)]
			check(t, secret, u, wanted(secret, u))
		}
		check(t, secret, small(9), wanted(secret, small(9)))
	}
}

func TestP8_1Theirs(t *testing.T) {
	for i := range uint32(1500) {
		secret, u := sample(2*i), sample(2*i+1)
		check(t, secret, u, theirs(t, secret, u))
	}
	for _, secret := range secrets(20) {
		for _, u := range [][32]byte{small(9), full(), secret} {
			check(t, secret, u, theirs(t, secret, u))
		}
	}
}

func TestP8_1CurveAndTwist(t *testing.T) {
	curve, twist := points(100)
	for i := range 100 {
		secret := sample(uint32(5000 + i))
		for _, u := range [][32]byte{curve[i], twist[i]} {
			check(t, secret, u, theirs(t, secret, u))
			if onCurve(u) != onCurve(Mul(secret, u)) {
				t.Errorf("%x, %x: the product is not where u is", secret, u)
			}
		}
	}
}

// Numbers at which a word begins or ends, and those next to 0 and p.
func TestP8_1Edges(t *testing.T) {
	var all [][32]byte
	for d := int64(0); d <= 40; d++ {
		all = append(all, small(d), bytes32(prime(-d)), bytes32(power2(256, -1-d)))
	}
	for _, n := range []uint{8, 32, 63, 64, 65, 127, 128, 129, 191, 192, 193, 253, 254, 255} {
		for _, d := range []int64{-1, 0, 1} {
			all = append(all, bytes32(power2(n, d)))
		}
	}
	for i, u := range all {
		for _, secret := range [][32]byte{{}, full(), sample(uint32(i)), u} {
			check(t, secret, u, theirs(t, secret, u))
		}
		check(t, u, small(9), theirs(t, u, small(9)))
	}
}

// forms answers the 32 secrets that differ from one only in the bits that are set and cleared.
func forms(secret [32]byte) [][32]byte {
	var all [][32]byte
	for low := range byte(8) {
		for top := range byte(4) {
			other := secret
			other[0] = other[0]&^7 | low
			other[31] = other[31]&^192 | top<<6
			all = append(all, other)
		}
	}
	return all
}

func TestP8_1BitsSetAndCleared(t *testing.T) {
	for i, secret := range secrets(6) {
		for _, u := range [][32]byte{small(9), sample(uint32(i)), sample(uint32(i) + 50)} {
			want := wanted(secret, u)
			for _, other := range forms(secret) {
				check(t, other, u, want)
			}
		}
	}
	for _, secret := range forms([32]byte{}) {
		if _, e := Shared(secret, small(0)); e != api.ErrForm {
			t.Errorf("Shared %x, 0: %v", secret, e)
		}
	}
}

// Each other bit of a secret makes another product.
func TestP8_1EachBitOfTheSecret(t *testing.T) {
	for _, secret := range [][32]byte{{}, full(), sample(7)} {
		seen := map[[32]byte]int{}
		for i := 3; i < 254; i++ {
			other := secret
			other[i/8] ^= 1 << (i % 8)
			check(t, other, small(9), theirs(t, other, small(9)))
			p := Public(other)
			if before := seen[p]; before != 0 || p == Public(secret) {
				t.Errorf("%x: the bit %d, and %d", secret, i, before)
			}
			seen[p] = i
		}
	}
}

func TestP8_1NoughtsAndFull(t *testing.T) {
	curve, twist := points(10)
	for _, u := range append(append(curve, twist...), small(9), full()) {
		least, most := multiple(power2(254, 0), residue(u)), multiple(power2(255, -8), residue(u))
		check(t, [32]byte{}, u, least)
		check(t, full(), u, most)
	}
}

// residue answers what a point stands for.
func residue(u [32]byte) *big.Int {
	v := value(u)
	return mod(v.SetBit(v, 255, 0))
}

func TestP8_1HighestBit(t *testing.T) {
	curve, twist := points(40)
	for i, u := range append(append(curve, twist...), small(9), small(2), bytes32(prime(-2)), bytes32(prime(3))) {
		u[31] &= 127
		secret := sample(uint32(i))
		want := theirs(t, secret, u)
		check(t, secret, u, want)
		check(t, secret, high(u), want)
	}
}

// Points of p and more are what they are modulo p: with 255 bits there are 19 of them.
func TestP8_1FromP(t *testing.T) {
	for d := int64(0); d <= 18; d++ {
		for i, secret := range secrets(4) {
			want := theirs(t, secret, small(d))
			if i == 1 {
				want = wanted(secret, small(d))
			}
			for _, u := range [][32]byte{small(d), bytes32(prime(d)), high(small(d)), high(bytes32(prime(d)))} {
				check(t, secret, u, want)
			}
		}
	}
	if bytes32(prime(18)) != bytes32(power2(255, -1)) {
		t.Error("p + 18 is not 2^255 - 1")
	}
}

func TestP8_1AnswersCanonical(t *testing.T) {
	all := append(smalls(), full(), bytes32(prime(2)), bytes32(prime(18)), bytes32(prime(-2)))
	for i := range uint32(200) {
		all = append(all, sample(i))
	}
	for i, u := range all {
		secret := sample(uint32(i) + 9000)
		shared, _ := Shared(secret, u)
		for _, got := range [][32]byte{Mul(secret, u), shared, Public(u)} {
			if !field.Canonical(got) || value(got).Cmp(prime(0)) >= 0 {
				t.Errorf("%x, %x: %x", secret, u, got)
			}
		}
	}
}

// The tests' points of small order are: 0 of order 2, 1 and p - 1 of order 4, and two of order 8.
func TestP8_1Orders(t *testing.T) {
	for _, c := range []struct {
		u     [32]byte
		order int64
	}{{small(0), 2}, {small(1), 4}, {bytes32(prime(-1)), 4}, {eighths()[0], 8}, {eighths()[1], 8}} {
		for n := int64(1); n <= 8; n++ {
			isZero := multiple(big.NewInt(n), value(c.u)) == [32]byte{}
			// 0 is the u of the point of order 2, too.
			if want := n%(c.order/2) == 0; isZero != want {
				t.Errorf("%d times %x: %v", n, c.u, isZero)
			}
		}
		if _, e := field.Sqrt(bytes32(sideOf(value(c.u)))); (e == api.OK) != onCurve(c.u) {
			t.Errorf("%x: %v", c.u, e)
		}
	}
}

func TestP8_1SmallOrder(t *testing.T) {
	if n := len(smalls()); n != 14 {
		t.Errorf("%d of small order", n)
	}
	for _, u := range smalls() {
		for _, secret := range append(secrets(30), u) {
			check(t, secret, u, [32]byte{})
		}
		check(t, full(), u, wanted(full(), u))
	}
}

// Bytes next to those of small order are none of them. 2p - 1, 2p and 2p + 1 have the highest bit: without it they stand for p - 20, p - 19 and p - 18.
func TestP8_1NextToSmallOrder(t *testing.T) {
	all := [][32]byte{
		small(2), small(3), bytes32(prime(-2)), bytes32(prime(2)), bytes32(prime(3)), bytes32(prime(18)),
		bytes32(twicePrime(-1)), bytes32(twicePrime(0)), bytes32(twicePrime(1)),
		bytes32(prime(-19)), bytes32(prime(-18)), bytes32(prime(-20)), bytes32(power2(254, 0)),
	}
	for _, eighth := range eighths() {
		for _, d := range []int64{-1, 1, -19} {
			all = append(all, bytes32(new(big.Int).Add(value(eighth), big.NewInt(d))))
		}
		all = append(all, bytes32(new(big.Int).Sub(prime(0), value(eighth))))
	}
	for i, u := range all {
		for _, secret := range [][32]byte{{}, full(), sample(uint32(i))} {
			want := theirs(t, secret, u)
			if want == [32]byte{} {
				t.Errorf("%x, %x: 0", secret, u)
			}
			check(t, secret, u, want)
			check(t, secret, high(u), want)
		}
	}
}

// A secret's number is a multiple of 8: a part of small order is lost. The point of order 2 more makes 1 / u of u.
func TestP8_1PartsOfSmallOrder(t *testing.T) {
	curve, twist := points(40)
	for i, u := range append(curve, twist...) {
		u[31] &= 127
		secret := sample(uint32(i))
		check(t, secret, field.Inv(u), Mul(secret, u))
		w, at := sideOf(value(u)), spot{value(u), big.NewInt(1)}
		if onCurve(u) {
			// One of order 4 on the curve: its v as (u, 1) is measured, by a root of what lies between the two.
			v, e := field.Sqrt(field.Mul(bytes32(sideOf(big.NewInt(1))), field.Inv(bytes32(w))))
			if e != api.OK {
				t.Fatalf("%x: no root", u)
			}
			more := sum(w, at, spot{big.NewInt(1), value(v)})
			check(t, secret, bytes32(more.u), Mul(secret, u))
		}
	}
}

// Public's point is the one of layer 6 with the same number: its u is (1 + y) / (1 - y).
func TestP8_1PublicAndLayer6(t *testing.T) {
	for _, secret := range secrets(60) {
		y := point.Base(numberOf(secret))
		y[31] &= 127
		want := field.Mul(field.Add(small(1), y), field.Inv(field.Sub(small(1), y)))
		if got := Public(secret); got != want {
			t.Errorf("Public %x: %x, not %x", secret, got, want)
		}
	}
}

func TestP8_1PublicIsTheProductWith9(t *testing.T) {
	for _, secret := range secrets(200) {
		want := theirs(t, secret, small(9))
		check(t, secret, small(9), want)
		if got := Public(secret); got != want || got == [32]byte{} {
			t.Errorf("Public %x: %x, not %x", secret, got, want)
		}
		check(t, secret, bytes32(prime(9)), want)
		check(t, secret, high(small(9)), want)
	}
}

func TestP8_2Shared(t *testing.T) {
	all := secrets(45)
	for i, a := range all {
		for _, b := range [][32]byte{a, all[(7*i+3)%len(all)], all[(11*i+20)%len(all)]} {
			one, e := Shared(a, Public(b))
			two, f := Shared(b, Public(a))
			if one != two || e != api.OK || f != api.OK || one == [32]byte{} {
				t.Errorf("%x, %x: %x, %v and %x, %v", a, b, one, e, two, f)
			}
			if got := theirs(t, a, Public(b)); got != one {
				t.Errorf("%x, %x: %x, not %x", a, b, one, got)
			}
		}
	}
}

// Each two of them share a secret of their own.
func TestP8_2OthersShareOthers(t *testing.T) {
	type pair struct{ i, j int }
	seen := map[[32]byte]pair{}
	all := [][32]byte{{}, full()}
	for i := range uint32(20) {
		all = append(all, sample(i))
	}
	for i, a := range all {
		for j := range i {
			got, e := Shared(a, Public(all[j]))
			if before, found := seen[got]; found || e != api.OK {
				t.Errorf("%d and %d share %x, %v, as %v do", i, j, got, e, before)
			}
			seen[got] = pair{i, j}
		}
	}
}

// It holds for each point that the two begin with, on the curve and on its twist.
func TestP8_2FromEachPoint(t *testing.T) {
	curve, twist := points(20)
	for i, u := range append(append(curve, twist...), smalls()...) {
		a, b := sample(uint32(i)), sample(uint32(i)+700)
		one, e := Shared(a, Mul(b, u))
		two, f := Shared(b, Mul(a, u))
		if one != two || e != f || (e == api.OK) != (i < 40) {
			t.Errorf("%x, %x, %x: %x, %v and %x, %v", a, b, u, one, e, two, f)
		}
	}
}

// What is handed in stays, and each answer is its own and the same each time.
func TestP8_1HandedInStays(t *testing.T) {
	for i := range uint32(20) {
		secret, u := sample(i), high(sample(i+80))
		product, public := Mul(secret, u), Public(secret)
		shared, e := Shared(secret, u)
		if secret != sample(i) || u != high(sample(i+80)) {
			t.Errorf("%d: %x, %x", i, secret, u)
		}
		if e != api.OK || shared != product {
			t.Errorf("%d: Shared %x, %v, and Mul %x", i, shared, e, product)
		}
		shared[0]++
		product[31]++
		again, _ := Shared(secret, u)
		if Mul(secret, u) != again || again == shared || again == product || Public(secret) != public {
			t.Errorf("%d: another answer, asked again", i)
		}
	}
}
