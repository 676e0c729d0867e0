package point

import (
	"crypto/ed25519"
	"crypto/sha512"
	"encoding/hex"
	"math/big"
	"slices"
	"testing"

	"postilion/api"
)

// noPoints answers bytes that are none, for each reason that the chapter names.
func noPoints() [][32]byte {
	all := [][32]byte{
		// The lower 255 bits are p or more: p, and p with a y that has an x (0, 1, 3).
		bytes32(beside(0)), signed(beside(0)),
		bytes32(beside(1)), signed(beside(1)),
		bytes32(beside(3)), signed(beside(3)),
		bytes32(power2(255, -1)), full(),
		// No x fits.
		small(2), signed(big.NewInt(2)),
		small(7), signed(big.NewInt(7)),
		bytes32(beside(-2)), signed(beside(-2)),
		// x is 0.
		signed(big.NewInt(1)), signed(beside(-1)),
	}
	for d := int64(4); d <= 18; d++ {
		all = append(all, bytes32(beside(d)), signed(beside(d)))
	}
	return all
}

// checkModel holds Check against the model.
func checkModel(t *testing.T, b [32]byte) bool {
	t.Helper()
	want := api.ErrForm
	_, found := spotOf(b)
	if found {
		want = api.OK
	}
	if e := Check(b); e != want {
		t.Errorf("Check %x: %v, not %v", b, e, want)
	}
	return found
}

func TestP6_1CheckKnown(t *testing.T) {
	for _, b := range [][32]byte{
		small(1), bytes32(beside(-1)), small(0), signed(new(big.Int)), small(3), signed(big.NewInt(3)), Generator(), Zero(),
	} {
		if e := Check(b); e != api.OK {
			t.Errorf("Check %x: %v", b, e)
		}
	}
	for _, b := range noPoints() {
		if e := Check(b); e != api.ErrForm {
			t.Errorf("Check %x: %v", b, e)
		}
	}
}

func TestP6_1Check(t *testing.T) {
	with, without := 0, 0
	for i := range uint32(600) {
		if checkModel(t, sample(i)) {
			with++
		} else {
			without++
		}
	}
	if with < 200 || without < 200 {
		t.Errorf("%d points, and %d others: too few", with, without)
	}
	for n := int64(0); n <= 60; n++ {
		checkModel(t, small(n))
		checkModel(t, signed(big.NewInt(n)))
	}
	for d := int64(-60); d <= 18; d++ {
		checkModel(t, bytes32(beside(d)))
		checkModel(t, signed(beside(d)))
	}
}

// Of bytes with an x, other than 0, those with the other highest bit are a point too.
func TestP6_1CheckBothSigns(t *testing.T) {
	for _, b := range points(100, 50) {
		b[31] ^= 128
		if e := Check(b); e != api.OK {
			t.Errorf("Check %x: %v", b, e)
		}
	}
}

func TestP6_1ZeroAndGenerator(t *testing.T) {
	var b [32]byte
	for i := range b {
		b[i] = 102
	}
	b[0] = 88
	if got := Generator(); got != b || got != sent(generator()) {
		t.Errorf("Generator: %x", got)
	}
	if generator().x.Bit(0) != 0 {
		t.Error("B's x is odd")
	}
	if got := Zero(); got != small(1) || got != sent(neutral()) {
		t.Errorf("Zero: %x", got)
	}
}

func TestP6_1D(t *testing.T) {
	if got := d(); got != bytes32(dOf()) {
		t.Errorf("d: %x", got)
	}
}

// checkRefused holds each call with b, in each place, to answer ErrForm and nothing else.
func checkRefused(t *testing.T, b [32]byte, others [][32]byte) {
	t.Helper()
	refused := func(what string, got [32]byte, e api.Errno) {
		t.Helper()
		if got != [32]byte{} || e != api.ErrForm {
			t.Errorf("%s of %x: %x, %v", what, b, got, e)
		}
	}
	for _, other := range others {
		first, e := Add(b, other)
		refused("Add, the first,", first, e)
		second, e := Add(other, b)
		refused("Add, the second,", second, e)
	}
	for _, n := range [][32]byte{small(0), small(1), small(8), bytes32(order(1, 0)), bytes32(order(8, 0)), full()} {
		got, e := Mul(n, b)
		refused("Mul", got, e)
	}
	got, e := Neg(b)
	refused("Neg", got, e)
	got, e = Clear(b)
	refused("Clear", got, e)
	if yes, e := Small(b); yes || e != api.ErrForm {
		t.Errorf("Small of %x: %v, %v", b, yes, e)
	}
}

func TestP6_1NoPoint(t *testing.T) {
	none := noPoints()
	for i := uint32(900); i < 930; i++ {
		if _, found := spotOf(sample(i)); !found {
			none = append(none, sample(i))
		}
	}
	for i, b := range none {
		checkRefused(t, b, [][32]byte{Zero(), Generator(), b, none[(i+1)%len(none)]})
	}
}

// checkAdd holds the sum of a and b against the model.
func checkAdd(t *testing.T, a, b [32]byte) {
	t.Helper()
	x, _ := spotOf(a)
	y, _ := spotOf(b)
	want := sent(sumOf(x, y))
	if got, e := Add(a, b); got != want || e != api.OK {
		t.Errorf("Add %x, %x: %x, %v, not %x", a, b, got, e, want)
	}
}

// checkNeg holds Neg against the model, and its sum with a to Zero.
func checkNeg(t *testing.T, a [32]byte) {
	t.Helper()
	x, _ := spotOf(a)
	want := sent(spot{mod(new(big.Int).Neg(x.x)), x.y})
	got, e := Neg(a)
	if got != want || e != api.OK {
		t.Errorf("Neg %x: %x, %v, not %x", a, got, e, want)
	}
	if sum, e := Add(a, got); sum != Zero() || e != api.OK {
		t.Errorf("%x and its Neg: %x, %v", a, sum, e)
	}
	if sum, e := Add(got, a); sum != Zero() || e != api.OK {
		t.Errorf("the Neg of %x and it: %x, %v", a, sum, e)
	}
}

// checkMul holds Mul against the model.
func checkMul(t *testing.T, n, a [32]byte) {
	t.Helper()
	x, _ := spotOf(a)
	want := sent(takenTimes(value(n), x))
	if got, e := Mul(n, a); got != want || e != api.OK {
		t.Errorf("Mul %x, %x: %x, %v, not %x", n, a, got, e, want)
	}
}

// checkClear holds Clear against the model, and Small to what is said of a.
func checkClear(t *testing.T, a [32]byte, isSmall bool) {
	t.Helper()
	x, _ := spotOf(a)
	want := sent(takenTimes(big.NewInt(8), x))
	if got, e := Clear(a); got != want || e != api.OK {
		t.Errorf("Clear %x: %x, %v, not %x", a, got, e, want)
	}
	if got, e := Small(a); got != isSmall || e != api.OK {
		t.Errorf("Small %x: %v, %v", a, got, e)
	}
}

// sums answers, of each of some points of large order, its sum with each of the eight.
func sums() [][32]byte {
	var all [][32]byte
	for _, a := range []spot{generator(), takenTimes(big.NewInt(8), generator())} {
		for _, b := range eight() {
			c, _ := spotOf(b)
			all = append(all, sent(sumOf(a, c)))
		}
	}
	return all
}

func TestP6_2Eight(t *testing.T) {
	known := []string{
		"0100000000000000000000000000000000000000000000000000000000000000",
		"ecffffffffffffffffffffffffffffffffffffffffffffffffffffffffffff7f",
		"0000000000000000000000000000000000000000000000000000000000000000",
		"0000000000000000000000000000000000000000000000000000000000000080",
		"26e8958fc2b227b045c3f489f2ef98f0d5dfac05d3c63339b13802886d53fc05",
		"26e8958fc2b227b045c3f489f2ef98f0d5dfac05d3c63339b13802886d53fc85",
		"c7176a703d4dd84fba3c0b760d10670f2a2053fa2c39ccc64ec7fd7792ac037a",
		"c7176a703d4dd84fba3c0b760d10670f2a2053fa2c39ccc64ec7fd7792ac03fa",
	}
	all := eight()
	if len(all) != 8 {
		t.Fatalf("%d of them", len(all))
	}
	for _, text := range known {
		b, _ := hex.DecodeString(text)
		a := [32]byte(b)
		if !slices.Contains(all, a) {
			t.Errorf("%s is none of the eight", text)
		}
		if yes, e := Small(a); !yes || e != api.OK {
			t.Errorf("Small %s: %v, %v", text, yes, e)
		}
	}
}

// Each of the eight with each, as the numbers from 0 to 7 modulo 8.
func TestP6_2AddEight(t *testing.T) {
	all := eight()
	for i, a := range all {
		for k, b := range all {
			if got, e := Add(a, b); got != all[(i+k)%8] || e != api.OK {
				t.Errorf("Add %x, %x: %x, %v", a, b, got, e)
			}
			checkAdd(t, a, b)
		}
	}
}

func TestP6_2Add(t *testing.T) {
	all := slices.Concat(points(2000, 20), eight(), sums()[:10], [][32]byte{Generator()})
	for i, a := range all {
		checkAdd(t, a, a)
		checkAdd(t, a, Zero())
		checkAdd(t, Zero(), a)
		if got, e := Add(a, Zero()); got != a || e != api.OK {
			t.Errorf("%x and Zero: %x, %v", a, got, e)
		}
		if got, e := Add(Zero(), a); got != a || e != api.OK {
			t.Errorf("Zero and %x: %x, %v", a, got, e)
		}
		for k := range all {
			if (i+k)%3 == 0 || k >= 20 && k < 28 {
				checkAdd(t, a, all[k])
				checkAdd(t, all[k], a)
			}
		}
	}
}

// The sum does not hang on the order, nor on which two are added first.
func TestP6_2AddLaws(t *testing.T) {
	all := slices.Concat(points(3000, 12), eight())
	for i, a := range all {
		b, c := all[(i+5)%len(all)], all[(i+11)%len(all)]
		ab, _ := Add(a, b)
		ba, _ := Add(b, a)
		bc, _ := Add(b, c)
		left, e := Add(ab, c)
		right, f := Add(a, bc)
		if ab != ba || left != right || e != api.OK || f != api.OK {
			t.Errorf("%x, %x, %x: %x, %x, %x, %x", a, b, c, ab, ba, left, right)
		}
	}
}

func TestP6_2Neg(t *testing.T) {
	for _, a := range slices.Concat(points(4000, 60), eight(), sums(), [][32]byte{Generator()}) {
		checkNeg(t, a)
	}
	// The two of which x is 0 are their own.
	for _, a := range [][32]byte{Zero(), bytes32(beside(-1))} {
		if got, e := Neg(a); got != a || e != api.OK {
			t.Errorf("Neg %x: %x, %v", a, got, e)
		}
	}
}

func TestP6_2MulKnown(t *testing.T) {
	l := [32]byte{237, 211, 245, 92, 26, 99, 18, 88, 214, 156, 247, 162, 222, 249, 222, 20, 31: 16}
	b := Generator()
	minus, _ := Neg(b)
	two, _ := Add(b, b)
	for _, c := range []struct{ n, p, want [32]byte }{
		{small(0), b, Zero()},
		{small(1), b, b},
		{small(2), b, two},
		{l, b, Zero()},
		{bytes32(order(1, -1)), b, minus},
		{bytes32(order(1, 1)), b, b},
		{bytes32(order(15, 0)), b, Zero()},
		{bytes32(order(15, 2)), b, two},
		{full(), Zero(), Zero()},
		{small(0), Zero(), Zero()},
		// The one of order 2.
		{full(), bytes32(beside(-1)), bytes32(beside(-1))},
		{bytes32(power2(256, -2)), bytes32(beside(-1)), Zero()},
	} {
		if got, e := Mul(c.n, c.p); got != c.want || e != api.OK {
			t.Errorf("Mul %x, %x: %x, %v, not %x", c.n, c.p, got, e, c.want)
		}
	}
}

// Small multiples are sums, one by one.
func TestP6_2MulCounts(t *testing.T) {
	for _, a := range slices.Concat(points(5000, 5), eight(), sums()[8:12]) {
		sum := Zero()
		for n := range int64(20) {
			if got, e := Mul(small(n), a); got != sum || e != api.OK {
				t.Errorf("Mul %d, %x: %x, %v, not %x", n, a, got, e, sum)
			}
			sum, _ = Add(sum, a)
		}
	}
}

// What is taken is the number as it is: modulo 8 for the eight, and modulo L for no point but B's multiples.
func TestP6_2MulEight(t *testing.T) {
	all := eight()
	numbers := append(edgeNumbers(), sample(1), sample(2), sample(3))
	for i, a := range all {
		for _, n := range numbers {
			if got, e := Mul(n, a); got != all[i*int(n[0]%8)%8] || e != api.OK {
				t.Errorf("Mul %x, %x: %x, %v", n, a, got, e)
			}
		}
	}
}

func TestP6_2Mul(t *testing.T) {
	large := points(6000, 2)
	mixed := sums()
	for _, a := range [][32]byte{Generator(), mixed[1], mixed[4], mixed[8], mixed[15], large[0], large[1]} {
		for _, n := range edgeNumbers() {
			checkMul(t, n, a)
		}
	}
	for i, a := range points(6500, 25) {
		checkMul(t, sample(uint32(i)), a)
	}
}

// Mul of each bit alone: none is left out, and none is taken for another.
func TestP6_2MulBits(t *testing.T) {
	a := sums()[9]
	want := a
	for i := range uint(256) {
		if got, e := Mul(bytes32(power2(i, 0)), a); got != want || e != api.OK {
			t.Errorf("Mul 2^%d: %x, %v, not %x", i, got, e, want)
		}
		want, _ = Add(want, want)
	}
}

func TestP6_2Base(t *testing.T) {
	for _, n := range append(edgeNumbers(), sample(1), sample(2), sample(3), sample(4)) {
		want := sent(takenTimes(value(n), generator()))
		if got := Base(n); got != want {
			t.Errorf("Base %x: %x, not %x", n, got, want)
		}
		if got, e := Mul(n, Generator()); got != want || e != api.OK {
			t.Errorf("Mul %x of B: %x, %v", n, got, e)
		}
	}
}

// Base of a seed's number is the key that the library makes of the seed.
func TestP6_2BaseOfSeeds(t *testing.T) {
	for i := range uint32(100) {
		seed := sample(i)
		h := sha512.Sum512(seed[:])
		n := [32]byte(h[:32])
		n[0] &= 248
		n[31] = n[31]&127 | 64
		key := ed25519.NewKeyFromSeed(seed[:])
		if got := Base(n); !slices.Equal(got[:], key[32:]) {
			t.Errorf("of the seed %x: %x, not %x", seed, got, key[32:])
		}
	}
}

func TestP6_2ClearAndSmall(t *testing.T) {
	few := eight()
	for _, a := range slices.Concat(points(8000, 30), few, sums(), [][32]byte{Generator()}) {
		checkClear(t, a, slices.Contains(few, a))
		c, _ := Clear(a)
		if got, e := Mul(small(8), a); got != c || e != api.OK {
			t.Errorf("8 times %x: %x, %v, not %x", a, got, e, c)
		}
	}
	if yes, e := Small(Zero()); !yes || e != api.OK {
		t.Errorf("Small of Zero: %v, %v", yes, e)
	}
	if yes, e := Small(Generator()); yes || e != api.OK {
		t.Errorf("Small of B: %v, %v", yes, e)
	}
}

// One of the eight beside a point is gone when that is taken 8 times.
func TestP6_2ClearOfSums(t *testing.T) {
	want, _ := Clear(Generator())
	for _, a := range sums()[:8] {
		if got, e := Clear(a); got != want || e != api.OK {
			t.Errorf("Clear %x: %x, %v, not %x", a, got, e, want)
		}
	}
}

// What is answered is a point.
func TestP6_2AnswersArePoints(t *testing.T) {
	for i, a := range slices.Concat(points(9000, 20), eight(), sums()) {
		n := sample(uint32(i))
		sum, _ := Add(a, Generator())
		minus, _ := Neg(a)
		taken, _ := Mul(n, a)
		cleared, _ := Clear(a)
		for k, b := range [][32]byte{sum, minus, taken, cleared, Base(n)} {
			if _, found := spotOf(b); !found || Check(b) != api.OK {
				t.Errorf("%x: answer %d, %x", a, k, b)
			}
		}
	}
}

// What is handed in stays as it is, and the same is answered again, whatever is asked between; points and others alike.
func TestP6_2LeftAsTheyWere(t *testing.T) {
	for i, old := range slices.Concat(points(10000, 10), eight(), noPoints()[:8]) {
		a, b, n := old, Generator(), sample(uint32(i))
		answers := func() (all [][32]byte, errors []api.Errno) {
			sum, e0 := Add(a, b)
			other, e1 := Add(b, a)
			minus, e2 := Neg(a)
			taken, e3 := Mul(n, a)
			cleared, e4 := Clear(a)
			_, e5 := Small(a)
			return [][32]byte{sum, other, minus, taken, cleared, Base(n), Zero(), Generator()}, []api.Errno{e0, e1, e2, e3, e4, e5, Check(a)}
		}
		first, errors := answers()
		again, more := answers()
		if !slices.Equal(first, again) || !slices.Equal(errors, more) {
			t.Errorf("%x: not the same again", old)
		}
		if a != old || b != sent(generator()) || n != sample(uint32(i)) {
			t.Errorf("%x is %x now; %x, %x", old, a, b, n)
		}
	}
}
