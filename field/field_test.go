package field

import (
	"math/big"
	"slices"
	"testing"

	"postilion/api"
)

// sample answers n bytes that differ from place to place and from seed to seed.
func sample(seed uint32, n int) []byte {
	b := make([]byte, n)
	x := seed*2654435761 + 12345
	for i := range b {
		x = x*1664525 + 1013904223
		b[i] = byte(x >> 24)
	}
	return b
}

// power2 answers 2^n and d.
func power2(n uint, d int64) *big.Int {
	v := new(big.Int).Lsh(big.NewInt(1), n)
	return v.Add(v, big.NewInt(d))
}

// prime answers p.
func prime() *big.Int {
	return power2(255, -19)
}

// beside answers p and d.
func beside(d int64) *big.Int {
	return new(big.Int).Add(prime(), big.NewInt(d))
}

// bytes32 answers a number below 2^256 as bytes, little-endian.
func bytes32(v *big.Int) [32]byte {
	var b [32]byte
	v.FillBytes(b[:])
	slices.Reverse(b[:])
	return b
}

// value answers the number that the bytes are.
func value(a [32]byte) *big.Int {
	slices.Reverse(a[:])
	return new(big.Int).SetBytes(a[:])
}

// rest answers the canonical bytes of a number that may be less than 0, or p or more.
func rest(v *big.Int) [32]byte {
	return bytes32(new(big.Int).Mod(v, prime()))
}

func small(n int64) [32]byte {
	return bytes32(big.NewInt(n))
}

// edges answers the numbers at which a carry, a bound or a word begins or ends.
func edges() [][32]byte {
	var all [][32]byte
	for d := int64(0); d <= 40; d++ {
		all = append(all, small(d), bytes32(power2(256, -1-d)))
	}
	for d := int64(-40); d <= 40; d++ {
		all = append(all, bytes32(beside(d)))
	}
	for d := int64(-2); d <= 36; d++ {
		all = append(all, bytes32(new(big.Int).Add(prime(), beside(d))))
	}
	for _, n := range []uint{8, 32, 63, 64, 65, 127, 128, 129, 191, 192, 193, 253, 254} {
		for _, d := range []int64{-1, 0, 1} {
			all = append(all, bytes32(power2(n, d)))
		}
	}
	for i := range 32 {
		low, gap := bytes32(power2(256, -1)), bytes32(power2(256, -1))
		clear(low[i:])
		gap[i] = 0
		all = append(all, low, gap)
	}
	return all
}

// samples answers n numbers, canonical ones and others.
func samples(seed uint32, n int) [][32]byte {
	var all [][32]byte
	for i := range n {
		all = append(all, [32]byte(sample(seed+uint32(i), 32)))
	}
	return all
}

// checkPair holds Add, Sub and Mul against the numbers of big.
func checkPair(t *testing.T, a, b [32]byte) {
	t.Helper()
	x, y := value(a), value(b)
	if got, want := Add(a, b), rest(new(big.Int).Add(x, y)); got != want {
		t.Errorf("Add %x, %x: %x, not %x", a, b, got, want)
	}
	if got, want := Sub(a, b), rest(new(big.Int).Sub(x, y)); got != want {
		t.Errorf("Sub %x, %x: %x, not %x", a, b, got, want)
	}
	if got, want := Mul(a, b), rest(new(big.Int).Mul(x, y)); got != want {
		t.Errorf("Mul %x, %x: %x, not %x", a, b, got, want)
	}
}

func checkCanonical(t *testing.T, a [32]byte) {
	t.Helper()
	if got, want := Canonical(a), value(a).Cmp(prime()) < 0; got != want {
		t.Errorf("Canonical %x: %v", a, got)
	}
}

func TestP4_1Known(t *testing.T) {
	p, less := bytes32(prime()), [32]byte{}
	for i := range less {
		less[i] = 255
	}
	all := less
	less[0], less[31] = 236, 127
	if Canonical(p) || Canonical(all) || !Canonical(less) || !Canonical(small(0)) {
		t.Error("Canonical")
	}
	if got := Sub(small(0), small(1)); got != less {
		t.Errorf("0 less 1: %x", got)
	}
	if got := Add(p, small(0)); got != small(0) {
		t.Errorf("p and 0: %x", got)
	}
	if got := Add(all, small(0)); got != small(37) {
		t.Errorf("32 bytes 255: %x", got)
	}
	if got := Mul(less, less); got != small(1) {
		t.Errorf("p - 1 by itself: %x", got)
	}
	if got := Add(less, small(1)); got != small(0) {
		t.Errorf("p - 1 and 1: %x", got)
	}
}

func TestP4_1Canonical(t *testing.T) {
	for _, a := range append(edges(), samples(1, 500)...) {
		checkCanonical(t, a)
	}
	// Each byte alone decides, where the ones above it are p's.
	for i := range 32 {
		p := bytes32(prime())
		p[i]--
		checkCanonical(t, p)
		p[i] += 2
		checkCanonical(t, p)
	}
}

func TestP4_1Edges(t *testing.T) {
	all := edges()
	for _, a := range all {
		for _, b := range all {
			checkPair(t, a, b)
		}
	}
}

func TestP4_1Samples(t *testing.T) {
	for i := range uint32(4000) {
		checkPair(t, [32]byte(sample(2*i, 32)), [32]byte(sample(2*i+1, 32)))
	}
	for i, a := range samples(9000, 200) {
		b := edges()[i%len(edges())]
		checkPair(t, a, b)
		checkPair(t, b, a)
	}
}

// A number, and it with p, and with 2p, stand for one, in each place.
func TestP4_1Modulo(t *testing.T) {
	for low := int64(0); low <= 37; low++ {
		b := [32]byte(sample(uint32(low), 32))
		forms := [][32]byte{small(low), bytes32(beside(low)), bytes32(new(big.Int).Add(prime(), beside(low)))}
		for _, a := range forms {
			if Add(a, b) != Add(forms[0], b) || Add(b, a) != Add(forms[0], b) {
				t.Errorf("Add %x, %x", a, b)
			}
			if Sub(a, b) != Sub(forms[0], b) || Sub(b, a) != Sub(b, forms[0]) {
				t.Errorf("Sub %x, %x", a, b)
			}
			if Mul(a, b) != Mul(forms[0], b) || Mul(b, a) != Mul(forms[0], b) {
				t.Errorf("Mul %x, %x", a, b)
			}
		}
	}
}

func checkInv(t *testing.T, a [32]byte) {
	t.Helper()
	x := new(big.Int).Mod(value(a), prime())
	want := new(big.Int)
	if x.Sign() != 0 {
		want.ModInverse(x, prime())
	}
	if got := Inv(a); got != bytes32(want) {
		t.Errorf("Inv %x: %x, not %x", a, got, bytes32(want))
	}
}

func TestP4_2InvKnown(t *testing.T) {
	if got := Mul(small(2), Inv(small(2))); got != small(1) {
		t.Errorf("2 by its inverse: %x", got)
	}
	for _, a := range [][32]byte{small(0), bytes32(prime()), bytes32(power2(256, -38))} {
		if got := Inv(a); got != small(0) {
			t.Errorf("Inv %x: %x", a, got)
		}
	}
	less := bytes32(beside(-1))
	if Inv(less) != less || Inv(small(1)) != small(1) {
		t.Error("Inv of p - 1, or of 1")
	}
	if got := Inv(bytes32(power2(256, -1))); got != Inv(small(37)) {
		t.Errorf("Inv of 32 bytes 255: %x", got)
	}
}

func TestP4_2Inv(t *testing.T) {
	for _, a := range append(edges(), samples(20000, 500)...) {
		checkInv(t, a)
	}
}

// evenRoot answers the even root of a, and whether there is one: told by big.
func evenRoot(a [32]byte) ([32]byte, bool) {
	p := prime()
	root := new(big.Int).ModSqrt(new(big.Int).Mod(value(a), p), p)
	if root == nil {
		return [32]byte{}, false
	}
	if root.Bit(0) == 1 {
		root.Sub(p, root)
	}
	return bytes32(root), true
}

// checkSqrt answers whether a has a root.
func checkSqrt(t *testing.T, a [32]byte) bool {
	t.Helper()
	want, found := evenRoot(a)
	code := api.OK
	if !found {
		code = api.ErrNone
	}
	if got, e := Sqrt(a); got != want || e != code {
		t.Errorf("Sqrt %x: %x, %v, not %x, %v", a, got, e, want, code)
	}
	return found
}

func TestP4_2SqrtKnown(t *testing.T) {
	p, less := bytes32(prime()), bytes32(beside(-1))
	for _, c := range []struct{ a, root [32]byte }{
		{small(0), small(0)},
		{p, small(0)},
		{bytes32(power2(256, -38)), small(0)},
		{small(1), less},
		{bytes32(beside(1)), less},
		{small(4), small(2)},
		{bytes32(beside(4)), small(2)},
		{small(9), bytes32(beside(-3))},
		{small(16), small(4)},
		{small(25), bytes32(beside(-5))},
		{bytes32(power2(254, 0)), bytes32(power2(127, 0))},
	} {
		if got, e := Sqrt(c.a); got != c.root || e != api.OK {
			t.Errorf("Sqrt %x: %x, %v, not %x", c.a, got, e, c.root)
		}
	}
	for _, a := range [][32]byte{small(2), bytes32(beside(2)), bytes32(beside(-2)), bytes32(power2(256, -36))} {
		if got, e := Sqrt(a); got != [32]byte{} || e != api.ErrNone {
			t.Errorf("Sqrt %x: %x, %v", a, got, e)
		}
	}
	if root, e := Sqrt(less); e != api.OK || Mul(root, root) != less || root[0]&1 != 0 {
		t.Errorf("Sqrt of p - 1: %x, %v", root, e)
	}
}

func TestP4_2Sqrt(t *testing.T) {
	with, without := 0, 0
	for _, a := range append(edges(), samples(30000, 500)...) {
		if checkSqrt(t, a) {
			with++
		} else {
			without++
		}
	}
	if with < 100 || without < 100 {
		t.Errorf("%d squares, and %d others: too few", with, without)
	}
}

// The square of each number has that one, or p less it, as its root: the even one of the two.
func TestP4_2SqrtOfSquares(t *testing.T) {
	odd := 0
	for _, a := range samples(40000, 300) {
		a = Add(a, small(0))
		want := a
		if a[0]&1 == 1 {
			odd++
			want = Sub(small(0), a)
		}
		if got, e := Sqrt(Mul(a, a)); got != want || e != api.OK {
			t.Errorf("Sqrt of the square of %x: %x, %v", a, got, e)
		}
	}
	if odd < 100 || odd > 200 {
		t.Errorf("%d odd numbers of 300", odd)
	}
}

// The written root is one of p - 1's.
func TestP4_2RootOfLess1(t *testing.T) {
	r := bytesOf(rootOfLess1())
	if got := Mul(r, r); got != bytes32(beside(-1)) {
		t.Errorf("its square: %x", got)
	}
}

// checkBelow holds an answer to be canonical, whatever came in.
func checkBelow(t *testing.T, what string, got, a, b [32]byte) {
	t.Helper()
	if !Canonical(got) || value(got).Cmp(prime()) >= 0 {
		t.Errorf("%s of %x, %x: %x", what, a, b, got)
	}
}

func TestP4_1AnswersCanonical(t *testing.T) {
	all := append(edges(), samples(50000, 50)...)
	for i, a := range all {
		b := all[(7*i+3)%len(all)]
		checkBelow(t, "Add", Add(a, b), a, b)
		checkBelow(t, "Sub", Sub(a, b), a, b)
		checkBelow(t, "Mul", Mul(a, b), a, b)
	}
}

func TestP4_2AnswersCanonical(t *testing.T) {
	for _, a := range append(edges(), samples(50000, 50)...) {
		root, _ := Sqrt(a)
		checkBelow(t, "Inv", Inv(a), a, a)
		checkBelow(t, "Sqrt", root, a, a)
	}
}

// What is handed in stays as it is, and the same is answered again.
func TestP4_1LeftAsTheyWere(t *testing.T) {
	for _, c := range samples(60000, 20) {
		a, b := c, bytes32(power2(256, -1))
		sum, difference, product := Add(a, b), Sub(a, b), Mul(a, b)
		Canonical(a)
		Canonical(b)
		if a != c || b != bytes32(power2(256, -1)) {
			t.Errorf("%x is %x now; %x", c, a, b)
		}
		if Add(a, b) != sum || Sub(a, b) != difference || Mul(a, b) != product {
			t.Errorf("%x: not the same again", c)
		}
	}
}

func TestP4_2LeftAsTheyWere(t *testing.T) {
	for _, c := range samples(60000, 20) {
		a := c
		inverse := Inv(a)
		root, e := Sqrt(a)
		if a != c {
			t.Errorf("%x is %x now", c, a)
		}
		if r, again := Sqrt(a); Inv(a) != inverse || r != root || again != e {
			t.Errorf("%x: not the same again", c)
		}
	}
}
