package scalar

import (
	"math/big"
	"slices"
	"testing"
)

// sample answers n bytes that differ from place to place and from seed to seed.
func sample(seed uint32, n int) []byte {
	b := make([]byte, n)
	x := seed*2654435761 + 12345
	for i := range b {
		x = x*1664525 + 1013904223
		b[i] = byte(x >> 24)
	}
	return b
}

// power2 answers 2^n and d.
func power2(n uint, d int64) *big.Int {
	v := new(big.Int).Lsh(big.NewInt(1), n)
	return v.Add(v, big.NewInt(d))
}

// order answers L, from the chapter's decimal digits.
func order() *big.Int {
	tail, _ := new(big.Int).SetString("27742317777372353535851937790883648493", 10)
	return tail.Add(tail, power2(252, 0))
}

// beside answers L taken k times, and d.
func beside(k, d int64) *big.Int {
	v := new(big.Int).Mul(order(), big.NewInt(k))
	return v.Add(v, big.NewInt(d))
}

// bytes32 answers a number below 2^256 as bytes, little-endian.
func bytes32(v *big.Int) [32]byte {
	var b [32]byte
	v.FillBytes(b[:])
	slices.Reverse(b[:])
	return b
}

// bytes64 answers a number below 2^512 as bytes, little-endian.
func bytes64(v *big.Int) [64]byte {
	var b [64]byte
	v.FillBytes(b[:])
	slices.Reverse(b[:])
	return b
}

// value answers the number that the bytes are.
func value(b []byte) *big.Int {
	b = slices.Clone(b)
	slices.Reverse(b)
	return new(big.Int).SetBytes(b)
}

// canonical answers the bytes of a number that may be less than 0, or L or more, modulo L.
func canonical(v *big.Int) [32]byte {
	return bytes32(new(big.Int).Mod(v, order()))
}

func small(n int64) [32]byte {
	return bytes32(big.NewInt(n))
}

// full answers 32 bytes 255.
func full() [32]byte {
	return bytes32(power2(256, -1))
}

// edges answers the numbers at which a carry, a bound, a word or a multiple of L begins or ends.
func edges() [][32]byte {
	var all [][32]byte
	for d := int64(0); d <= 3; d++ {
		all = append(all, small(d), bytes32(power2(256, -1-d)))
	}
	// 2^256 is L taken somewhat less than 16 times.
	for k := int64(1); k <= 15; k++ {
		for d := int64(-2); d <= 2; d++ {
			all = append(all, bytes32(beside(k, d)))
		}
	}
	for _, n := range []uint{8, 63, 64, 65, 125, 127, 128, 129, 191, 192, 193, 251, 252, 253, 254, 255} {
		for _, d := range []int64{-1, 0, 1} {
			all = append(all, bytes32(power2(n, d)))
		}
	}
	for i := range 32 {
		low, gap := full(), full()
		clear(low[i:])
		gap[i] = 0
		all = append(all, low, gap)
	}
	return all
}

// samples answers n numbers, canonical ones and others.
func samples(seed uint32, n int) [][32]byte {
	var all [][32]byte
	for i := range n {
		a := [32]byte(sample(seed+uint32(i), 32))
		if i%2 == 1 {
			a[31] &= 15
		}
		all = append(all, a)
	}
	return all
}

// wideEdges answers numbers of 64 bytes: L shifted and taken many times, and what lies beside that; each edge alone in the lower half and in the higher one.
func wideEdges() [][64]byte {
	all := [][64]byte{bytes64(new(big.Int)), bytes64(power2(512, -1)), bytes64(power2(512, -2))}
	for _, a := range edges() {
		var low, high, filled [64]byte
		copy(low[:], a[:])
		copy(high[32:], a[:])
		filled = high
		copy(filled[:32], slices.Repeat([]byte{255}, 32))
		all = append(all, low, high, filled)
	}
	for n := uint(0); n <= 259; n++ {
		for d := int64(-1); d <= 1; d++ {
			shifted := new(big.Int).Lsh(order(), n)
			all = append(all, bytes64(shifted.Add(shifted, big.NewInt(d))), bytes64(power2(252+n, d)))
		}
	}
	// L taken as often as 64 bytes have room for.
	most := new(big.Int).Div(power2(512, -1), order())
	for d := int64(-2); d <= 2; d++ {
		v := new(big.Int).Mul(most, order())
		all = append(all, bytes64(v.Add(v, big.NewInt(d))))
	}
	for i := range uint32(300) {
		v := new(big.Int).Mul(value(sample(i, 32)), order())
		all = append(all, bytes64(v), bytes64(new(big.Int).Add(v, big.NewInt(1))), bytes64(new(big.Int).Sub(v, big.NewInt(1))))
	}
	return all
}

// nearOrder answers numbers whose higher bytes are 2^252 and up to L - 1: there a division by 2^252 has a quotient one bit too long.
func nearOrder() [][64]byte {
	var all [][64]byte
	for i, low := range samples(70000, 60) {
		tail := new(big.Int).Sub(order(), power2(252, 0))
		tail.Sub(tail, big.NewInt(1+int64(i%4)))
		for _, e := range []*big.Int{big.NewInt(int64(i)), new(big.Int).Rsh(tail, uint(i)), tail} {
			high := new(big.Int).Add(power2(252, 0), e)
			for n := uint(64); n <= 256; n += 64 {
				v := new(big.Int).Lsh(high, n)
				all = append(all, bytes64(v), bytes64(new(big.Int).Add(v, new(big.Int).Rsh(value(low[:]), 256-n))))
			}
		}
	}
	return all
}

func checkCanonical(t *testing.T, a [32]byte) {
	t.Helper()
	if got, want := Canonical(a), value(a[:]).Cmp(order()) < 0; got != want {
		t.Errorf("Canonical %x: %v", a, got)
	}
}

func checkReduce(t *testing.T, a [64]byte) {
	t.Helper()
	if got, want := Reduce(a), canonical(value(a[:])); got != want {
		t.Errorf("Reduce %x: %x, not %x", a, got, want)
	}
}

func checkNeg(t *testing.T, a [32]byte) {
	t.Helper()
	if got, want := Neg(a), canonical(new(big.Int).Neg(value(a[:]))); got != want {
		t.Errorf("Neg %x: %x, not %x", a, got, want)
	}
}

func checkAdd(t *testing.T, a, b [32]byte) {
	t.Helper()
	if got, want := Add(a, b), canonical(new(big.Int).Add(value(a[:]), value(b[:]))); got != want {
		t.Errorf("Add %x, %x: %x, not %x", a, b, got, want)
	}
}

func checkMulAdd(t *testing.T, a, b, c [32]byte) {
	t.Helper()
	v := new(big.Int).Mul(value(a[:]), value(b[:]))
	if got, want := MulAdd(a, b, c), canonical(v.Add(v, value(c[:]))); got != want {
		t.Errorf("MulAdd %x, %x, %x: %x, not %x", a, b, c, got, want)
	}
}

// orderBytes answers the chapter's bytes of L.
func orderBytes() [32]byte {
	return [32]byte{237, 211, 245, 92, 26, 99, 18, 88, 214, 156, 247, 162, 222, 249, 222, 20, 31: 16}
}

func TestP5_1Order(t *testing.T) {
	if got := bytes32(order()); got != orderBytes() {
		t.Fatalf("L: %x", got)
	}
	if got := timesOrder(1); bytesOf(got) != orderBytes() {
		t.Errorf("L, as the words have it: %x", bytesOf(got))
	}
}

func TestP5_1CanonicalKnown(t *testing.T) {
	l := orderBytes()
	less, more := l, l
	less[0]--
	more[0]++
	for _, a := range [][32]byte{small(0), small(1), less, bytes32(power2(252, 0)), bytes32(power2(252, -1))} {
		if !Canonical(a) {
			t.Errorf("%x is not", a)
		}
	}
	for _, a := range [][32]byte{l, more, bytes32(beside(2, -1)), bytes32(beside(2, 0)), bytes32(power2(253, 0)), full()} {
		if Canonical(a) {
			t.Errorf("%x is", a)
		}
	}
}

func TestP5_1Canonical(t *testing.T) {
	for _, a := range append(edges(), samples(1, 500)...) {
		checkCanonical(t, a)
	}
	// Each byte alone decides, where the ones above it are L's; a byte of 0 wraps round to 255.
	for i := range 32 {
		l := orderBytes()
		l[i]--
		checkCanonical(t, l)
		l[i] += 2
		checkCanonical(t, l)
	}
}

func TestP5_1ReduceKnown(t *testing.T) {
	l := orderBytes()
	var low, high, both, all [64]byte
	copy(low[:], l[:])
	copy(high[32:], l[:])
	copy(both[:], slices.Concat(l[:], l[:]))
	for i := range all {
		all[i] = 255
	}
	for _, a := range [][64]byte{{}, low, high, both} {
		if got := Reduce(a); got != small(0) {
			t.Errorf("Reduce %x: %x", a, got)
		}
	}
	low[0]++
	high[0] = 9
	if Reduce(low) != small(1) || Reduce(high) != small(9) || Reduce([64]byte{7, 1}) != small(263) {
		t.Error("L and 1, L in the higher bytes and 9, or 263")
	}
	if got, want := Reduce(all), Add(Reduce([64]byte(slices.Concat(make([]byte, 32), all[:32]))), full()); got != want {
		t.Errorf("64 bytes 255: %x, not %x", got, want)
	}
	checkReduce(t, all)
}

func TestP5_1ReduceMultiples(t *testing.T) {
	for k := int64(1); k <= 15; k++ {
		for d := int64(0); d <= 3; d++ {
			low := bytes64(beside(k, d))
			if got := Reduce(low); got != small(d) {
				t.Errorf("%d times L, and %d: %x", k, d, got)
			}
			high := bytes64(new(big.Int).Add(new(big.Int).Lsh(beside(k, 0), 256), big.NewInt(d)))
			if got := Reduce(high); got != small(d) {
				t.Errorf("%d times L in the higher bytes, and %d: %x", k, d, got)
			}
		}
	}
}

func TestP5_1Reduce(t *testing.T) {
	for _, a := range append(wideEdges(), nearOrder()...) {
		checkReduce(t, a)
	}
	for i := range uint32(4000) {
		checkReduce(t, [64]byte(sample(i, 64)))
	}
}

func TestP5_1AddKnown(t *testing.T) {
	l, less := orderBytes(), bytes32(beside(1, -1))
	for _, c := range []struct{ a, b, sum [32]byte }{
		{small(0), small(0), small(0)},
		{small(2), small(3), small(5)},
		{l, small(5), small(5)},
		{small(5), l, small(5)},
		{l, l, small(0)},
		{less, small(0), less},
		{less, small(1), small(0)},
		{less, small(2), small(1)},
		{less, less, bytes32(beside(1, -2))},
		{bytes32(beside(1, 1)), bytes32(beside(2, 0)), small(1)},
		{bytes32(power2(252, -1)), small(1), bytes32(power2(252, 0))},
		{full(), small(0), canonical(power2(256, -1))},
		{full(), small(1), canonical(power2(256, 0))},
		{full(), full(), canonical(power2(257, -2))},
	} {
		if got := Add(c.a, c.b); got != c.sum {
			t.Errorf("Add %x, %x: %x, not %x", c.a, c.b, got, c.sum)
		}
	}
}

func TestP5_1Add(t *testing.T) {
	all := append(edges(), samples(1000, 30)...)
	for _, a := range all {
		for _, b := range all {
			checkAdd(t, a, b)
		}
	}
}

func TestP5_1NegKnown(t *testing.T) {
	l, less := orderBytes(), bytes32(beside(1, -1))
	for _, c := range []struct{ a, want [32]byte }{
		{small(0), small(0)},
		{small(1), less},
		{less, small(1)},
		{l, small(0)},
		{bytes32(beside(1, 1)), less},
		{bytes32(beside(2, -1)), small(1)},
		{bytes32(beside(2, 0)), small(0)},
		{bytes32(beside(15, 0)), small(0)},
		{full(), canonical(new(big.Int).Sub(beside(16, 1), power2(256, 0)))},
	} {
		if got := Neg(c.a); got != c.want {
			t.Errorf("Neg %x: %x, not %x", c.a, got, c.want)
		}
	}
}

func TestP5_1Neg(t *testing.T) {
	for _, a := range append(edges(), samples(2000, 1000)...) {
		checkNeg(t, a)
		if got := Add(a, Neg(a)); got != small(0) {
			t.Errorf("%x and 0 less it: %x", a, got)
		}
	}
}

func TestP5_1MulAddKnown(t *testing.T) {
	l, less := orderBytes(), bytes32(beside(1, -1))
	for _, c := range []struct{ a, b, c, want [32]byte }{
		{less, less, small(0), small(1)},
		{less, less, less, small(0)},
		{less, small(1), small(1), small(0)},
		{small(3), small(4), small(5), small(17)},
		{small(0), less, small(7), small(7)},
		{less, small(0), small(7), small(7)},
		{l, full(), small(7), small(7)},
		{full(), l, small(7), small(7)},
		{small(0), small(0), l, small(0)},
		{small(0), small(0), bytes32(beside(2, 3)), small(3)},
		{small(0), full(), full(), canonical(power2(256, -1))},
		{bytes32(power2(255, 0)), small(2), small(0), canonical(power2(256, 0))},
		{full(), small(1), small(1), canonical(power2(256, 0))},
		{full(), full(), small(0), canonical(new(big.Int).Add(power2(512, 1), new(big.Int).Neg(power2(257, 0))))},
		{full(), full(), full(), canonical(new(big.Int).Sub(power2(512, 0), power2(256, 0)))},
	} {
		if got := MulAdd(c.a, c.b, c.c); got != c.want {
			t.Errorf("MulAdd %x, %x, %x: %x, not %x", c.a, c.b, c.c, got, c.want)
		}
	}
}

func TestP5_1MulAddEdges(t *testing.T) {
	all := edges()
	for i, a := range all {
		for k, b := range all {
			checkMulAdd(t, a, b, all[(5*i+7*k)%len(all)])
		}
		checkMulAdd(t, full(), full(), a)
		checkMulAdd(t, full(), a, full())
		checkMulAdd(t, a, full(), full())
	}
}

func TestP5_1MulAddSamples(t *testing.T) {
	for i := range uint32(4000) {
		checkMulAdd(t, [32]byte(sample(3*i, 32)), [32]byte(sample(3*i+1, 32)), [32]byte(sample(3*i+2, 32)))
	}
	all := edges()
	for i, a := range samples(9000, 200) {
		b, c := all[i%len(all)], all[(3*i+1)%len(all)]
		checkMulAdd(t, a, b, c)
		checkMulAdd(t, b, a, c)
		checkMulAdd(t, b, c, a)
	}
}

// A number, and it with L as often as 32 bytes have room for, stand for one, in each place.
func TestP5_1Modulo(t *testing.T) {
	for low := int64(0); low <= 20; low++ {
		a, b, c := small(low), [32]byte(sample(uint32(low), 32)), [32]byte(sample(uint32(low)+100, 32))
		for k := int64(1); k <= 15; k++ {
			m := bytes32(beside(k, low))
			if Add(m, b) != Add(a, b) || Add(b, m) != Add(a, b) {
				t.Errorf("Add %x, %x", m, b)
			}
			if Neg(m) != Neg(a) {
				t.Errorf("Neg %x", m)
			}
			if MulAdd(m, b, c) != MulAdd(a, b, c) || MulAdd(b, m, c) != MulAdd(b, a, c) || MulAdd(b, c, m) != MulAdd(b, c, a) {
				t.Errorf("MulAdd %x, %x, %x", m, b, c)
			}
		}
	}
}

// checkBelow holds an answer to be canonical, whatever came in.
func checkBelow(t *testing.T, what string, got [32]byte) {
	t.Helper()
	if !Canonical(got) || value(got[:]).Cmp(order()) >= 0 {
		t.Errorf("%s: %x", what, got)
	}
}

func TestP5_1AnswersCanonical(t *testing.T) {
	all := append(edges(), samples(50000, 50)...)
	for i, a := range all {
		b, c := all[(7*i+3)%len(all)], all[(11*i+5)%len(all)]
		checkBelow(t, "Add", Add(a, b))
		checkBelow(t, "Neg", Neg(a))
		checkBelow(t, "MulAdd", MulAdd(a, b, c))
	}
	for _, a := range append(wideEdges(), nearOrder()...) {
		checkBelow(t, "Reduce", Reduce(a))
	}
}

// What is handed in stays as it is, and the same is answered again.
func TestP5_1LeftAsTheyWere(t *testing.T) {
	for i, old := range samples(60000, 20) {
		a, b, c := old, full(), bytes32(beside(1, int64(i)))
		wide := [64]byte(sample(uint32(i), 64))
		was := wide
		answers := func() [5][32]byte {
			yes := [32]byte{}
			if Canonical(a) {
				yes[0] = 1
			}
			return [5][32]byte{yes, Reduce(wide), Add(a, b), Neg(a), MulAdd(a, b, c)}
		}
		first := answers()
		if answers() != first {
			t.Errorf("%x: not the same again", old)
		}
		if a != old || b != full() || c != bytes32(beside(1, int64(i))) || wide != was {
			t.Errorf("%x is %x now; %x, %x, %x", old, a, b, c, wide)
		}
	}
}

// A step of the division, at each n below L that is at an edge, with the least and the greatest word.
func TestP5_1BringDown(t *testing.T) {
	for _, a := range append(edges(), samples(80000, 200)...) {
		a = canonical(value(a[:]))
		for _, w := range []uint64{0, 1, order0 - 1, order0, 1<<64 - 1} {
			v := new(big.Int).Lsh(value(a[:]), 64)
			want := canonical(v.Add(v, new(big.Int).SetUint64(w)))
			if got := bytesOf(bringDown(read(a), w)); got != want {
				t.Errorf("%x, and %x: %x, not %x", a, w, got, want)
			}
		}
	}
}
