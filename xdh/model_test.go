package xdh

import (
	"crypto/ecdh"
	"math/big"
	"slices"
	"testing"

	"postilion/api"
)

// sample answers 32 bytes that differ from place to place and from seed to seed.
func sample(seed uint32) [32]byte {
	var b [32]byte
	x := seed*2654435761 + 12345
	for i := range b {
		x = x*1664525 + 1013904223
		b[i] = byte(x >> 24)
	}
	return b
}

// full answers 32 bytes 255.
func full() [32]byte {
	return [32]byte(slices.Repeat([]byte{255}, 32))
}

// power2 answers 2^n and d.
func power2(n uint, d int64) *big.Int {
	v := new(big.Int).Lsh(big.NewInt(1), n)
	return v.Add(v, big.NewInt(d))
}

// prime answers p and d.
func prime(d int64) *big.Int {
	return power2(255, d-19)
}

// twicePrime answers 2p and d.
func twicePrime(d int64) *big.Int {
	return new(big.Int).Add(prime(0), prime(d))
}

// bytes32 answers a number below 2^256 as bytes, little-endian.
func bytes32(v *big.Int) [32]byte {
	var b [32]byte
	v.FillBytes(b[:])
	slices.Reverse(b[:])
	return b
}

func small(n int64) [32]byte {
	return bytes32(big.NewInt(n))
}

// high answers the bytes with the highest bit set.
func high(b [32]byte) [32]byte {
	b[31] |= 128
	return b
}

// value answers the number that the bytes are.
func value(b [32]byte) *big.Int {
	slices.Reverse(b[:])
	return new(big.Int).SetBytes(b[:])
}

// mod answers v modulo p.
func mod(v *big.Int) *big.Int {
	return v.Mod(v, prime(0))
}

func times(a, b *big.Int) *big.Int {
	return mod(new(big.Int).Mul(a, b))
}

func less(a, b *big.Int) *big.Int {
	return mod(new(big.Int).Sub(a, b))
}

// over answers a / b, for a b that is not 0.
func over(a, b *big.Int) *big.Int {
	return times(a, new(big.Int).ModInverse(b, prime(0)))
}

// theA answers the curve's 486662.
func theA() *big.Int {
	return big.NewInt(486662)
}

// A spot is a point of w v^2 = u^3 + 486662 u^2 + u; its u is nil, if it is the neutral one.
type spot struct {
	u, v *big.Int
}

// sideOf answers u^3 + 486662 u^2 + u.
func sideOf(u *big.Int) *big.Int {
	inner := new(big.Int).Add(u, theA())
	inner = times(inner, u)
	inner.Add(inner, big.NewInt(1))
	return times(inner, u)
}

// onCurve answers whether a point of the curve has that u; else one of its twist has it.
func onCurve(u [32]byte) bool {
	u[31] &= 127
	return big.Jacobi(sideOf(mod(value(u))), prime(0)) >= 0
}

// sum answers a and b, by the rule of lines through points.
func sum(w *big.Int, a, b spot) spot {
	if a.u == nil {
		return b
	}
	if b.u == nil {
		return a
	}
	var slope *big.Int
	if a.u.Cmp(b.u) != 0 {
		slope = over(less(b.v, a.v), less(b.u, a.u))
	} else {
		if a.v.Cmp(b.v) != 0 || a.v.Sign() == 0 {
			return spot{}
		}
		above := new(big.Int).Mul(a.u, a.u)
		above.Mul(above, big.NewInt(3))
		above.Add(above, new(big.Int).Mul(a.u, new(big.Int).Lsh(theA(), 1)))
		above.Add(above, big.NewInt(1))
		slope = over(mod(above), times(w, new(big.Int).Lsh(a.v, 1)))
	}
	u := times(w, times(slope, slope))
	u = less(less(less(u, theA()), a.u), b.u)
	return spot{u, less(times(slope, less(a.u, u)), a.v)}
}

// multiple answers the u of the point that is n times one with u, by doubling and adding: on the curve whose w makes (u, 1) one of its points, be that like the chapter's curve or like its twist.
func multiple(n, u *big.Int) [32]byte {
	w, at := sideOf(u), spot{u, big.NewInt(1)}
	if u.Sign() == 0 {
		w, at.v = big.NewInt(1), new(big.Int)
	}
	all := spot{}
	for i := n.BitLen() - 1; i >= 0; i-- {
		all = sum(w, all, all)
		if n.Bit(i) == 1 {
			all = sum(w, all, at)
		}
	}
	if all.u == nil {
		return [32]byte{}
	}
	return bytes32(all.u)
}

// wanted answers the product by the chapter's words.
func wanted(secret, u [32]byte) [32]byte {
	n := value(secret)
	for _, i := range []int{0, 1, 2, 255} {
		n.SetBit(n, i, 0)
	}
	n.SetBit(n, 254, 1)
	v := value(u)
	return multiple(n, mod(v.SetBit(v, 255, 0)))
}

// theirs answers the library's product, and 0 where the library refuses it.
func theirs(t *testing.T, secret, u [32]byte) [32]byte {
	t.Helper()
	private, err := ecdh.X25519().NewPrivateKey(secret[:])
	if err != nil {
		t.Fatal(err)
	}
	public, err := ecdh.X25519().NewPublicKey(u[:])
	if err != nil {
		t.Fatal(err)
	}
	p, err := private.ECDH(public)
	if err != nil {
		return [32]byte{}
	}
	return [32]byte(p)
}

// check holds the three calls to the product that is wanted.
func check(t *testing.T, secret, u, want [32]byte) {
	t.Helper()
	if got := Mul(secret, u); got != want {
		t.Errorf("Mul %x, %x: %x, not %x", secret, u, got, want)
	}
	if value(want).Cmp(prime(0)) >= 0 {
		t.Errorf("%x, %x: the test asks for %x, which isn't canonical", secret, u, want)
	}
	code := api.OK
	if want == [32]byte{} {
		code = api.ErrForm
	}
	if got, e := Shared(secret, u); got != want || e != code {
		t.Errorf("Shared %x, %x: %x, %v, not %x, %v", secret, u, got, e, want, code)
	}
	if u != small(9) {
		return
	}
	if got := Public(secret); got != want {
		t.Errorf("Public %x: %x, not %x", secret, got, want)
	}
}

// secrets answers one of noughts, one of 32 bytes 255, one with no bit of its own, and n others.
func secrets(n uint32) [][32]byte {
	all := [][32]byte{{}, full(), bytes32(power2(254, 0)), bytes32(power2(254, 8)), bytes32(power2(255, -8))}
	for i := range n {
		all = append(all, sample(1000+i))
	}
	return all
}

// points answers n of the curve and n of its twist.
func points(n int) (curve, twist [][32]byte) {
	for i := uint32(0); len(curve) < n || len(twist) < n; i++ {
		u := sample(2000 + i)
		if onCurve(u) && len(curve) < n {
			curve = append(curve, u)
		}
		if !onCurve(u) && len(twist) < n {
			twist = append(twist, u)
		}
	}
	return curve, twist
}

// eighths answers the two of order 8.
func eighths() [][32]byte {
	one, _ := new(big.Int).SetString("325606250916557431795983626356110631294008115727848805560023387167927233504", 10)
	two, _ := new(big.Int).SetString("39382357235489614581723060781553021112529911719440698176882885853963445705823", 10)
	return [][32]byte{bytes32(one), bytes32(two)}
}

// smalls answers all bytes of the points of small order: canonical ones, with p more where 255 bits have room for it, and each with the highest bit set.
func smalls() [][32]byte {
	all := [][32]byte{small(0), small(1), bytes32(prime(-1)), bytes32(prime(0)), bytes32(prime(1))}
	all = append(all, eighths()...)
	for _, u := range all {
		all = append(all, high(u))
	}
	return all
}
