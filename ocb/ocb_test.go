package ocb

import (
	"encoding/binary"
	"encoding/hex"
	"slices"
	"testing"

	"postilion/api"
)

// sample answers n bytes that differ from place to place and from seed to seed.
func sample(seed uint32, n int) []byte {
	b := make([]byte, n)
	x := seed*2654435761 + 12345
	for i := range b {
		x = x*1664525 + 1013904223
		b[i] = byte(x >> 24)
	}
	return b
}

// count answers n bytes: 0, 1, 2, ..
func count(n int) []byte {
	b := make([]byte, n)
	for i := range b {
		b[i] = byte(i)
	}
	return b
}

func unhex(t *testing.T, s string) []byte {
	t.Helper()
	b, err := hex.DecodeString(s)
	if err != nil {
		t.Fatal(err)
	}
	return b
}

// check holds Seal, and Open, against what must be sealed.
func check(t *testing.T, key, nonce, ad, plain, want []byte) {
	t.Helper()
	if out, e := Seal(key, nonce, ad, plain); e != api.OK || !slices.Equal(out, want) {
		t.Errorf("Seal %x, %x, %x, %x: %x, %v, not %x", key, nonce, ad, plain, out, e, want)
	}
	if out, e := Open(key, nonce, ad, want); e != api.OK || !slices.Equal(out, plain) {
		t.Errorf("Open %x, %x, %x, %x: %x, %v, not %x", key, nonce, ad, want, out, e, plain)
	}
}

// checkBook holds Seal, and Open, against the book's OCB.
func checkBook(t *testing.T, key, nonce, ad, plain []byte) {
	t.Helper()
	check(t, key, nonce, ad, plain, newBook(t, key).seal(nonce, ad, plain))
}

// refused holds Open to ErrAuth, and nothing beside it.
func refused(t *testing.T, what string, key, nonce, ad, sealed []byte) {
	t.Helper()
	if out, e := Open(key, nonce, ad, sealed); e != api.ErrAuth || out != nil {
		t.Errorf("%s: %x, %v", what, out, e)
	}
}

// RFC 7253, appendix A: the chapter's example is the first of them.
func TestP3_1Known(t *testing.T) {
	for i, c := range []struct {
		ad, plain int
		sealed    string
	}{
		{0, 0, "785407bfffc8ad9edcc5520ac9111ee6"},
		{8, 8, "6820b3657b6f615a5725bda0d3b4eb3a257c9af1f8f03009"},
		{8, 0, "81017f8203f081277152fade694a0a00"},
		{0, 8, "45dd69f8f5aae72414054cd1f35d82760b2cd00d2f99bfa9"},
		{16, 16, "571d535b60b277188be5147170a9a22c3ad7a4ff3835b8c5701c1ccec8fc3358"},
		{16, 0, "8cf761b6902ef764462ad86498ca6b97"},
		{0, 16, "5ce88ec2e0692706a915c00aeb8b2396f40e1c743f52436bdf06d8fa1eca343d"},
		{24, 24, "1ca2207308c87c010756104d8840ce1952f09673a448a122c92c62241051f57356d7f3c90bb0e07f"},
		{24, 0, "6dc225a071fc1b9f7c69f93b0f1e10de"},
		{0, 24, "221bd0de7fa6fe993eccd769460a0af2d6cded0c395b1c3ce725f32494b9f914d85c0b1eb38357ff"},
		{32, 32, "bd6f6c496201c69296c11efd138a467abd3c707924b964deaffc40319af5a48540fbba186c5553c68ad9f592a79a4240"},
		{32, 0, "fe80690bee8a485d11f32965bc9d2a32"},
		{0, 32, "2942bfc773bda23cabc6acfd9bfd5835bd300f0973792ef46040c53f1432bcdfb5e1dde3bc18a5f840b52e653444d5df"},
		{40, 40, "d5ca91748410c1751ff8a2f618255b68a0a12e093ff454606e59f9c1d0ddc54b65e8628e568bad7aed07ba06a4a69483a7035490c5769e60"},
		{40, 0, "c5cd9d1850c141e358649994ee701b68"},
		{0, 40, "4412923493c57d5de0d700f753cce0d1d2d95060122e9f15a5ddbfc5787e50b5cc55ee507bcb084e479ad363ac366b95a98ca5f3000b1479"},
	} {
		nonce := append(unhex(t, "bbaa99887766554433221100")[:11], byte(i))
		check(t, count(16), nonce, count(c.ad), count(c.plain), unhex(t, c.sealed))
	}
}

// RFC 7253, appendix A: the tag of the tags and texts of 384 calls, with keys of 16 and of 32 bytes.
func TestP3_1KnownMany(t *testing.T) {
	for n, want := range map[int]string{16: "67e944d23256c5e0b6c61fa22fdf1ea2", 32: "d90eb8e9c977c88b79dd793d7ffa161c"} {
		key := make([]byte, n)
		key[n-1] = 128
		calls := uint32(0)
		seal := func(ad, plain []byte) []byte {
			calls++
			out, e := Seal(key, binary.BigEndian.AppendUint32(make([]byte, 8), calls), ad, plain)
			if e != api.OK {
				t.Fatal(n, calls, e)
			}
			return out
		}
		var all []byte
		for i := range 128 {
			s := make([]byte, i)
			all = append(all, seal(s, s)...)
			all = append(all, seal(nil, s)...)
			all = append(all, seal(s, nil)...)
		}
		if out := seal(all, nil); hex.EncodeToString(out) != want {
			t.Errorf("%d bytes: %x", n, out)
		}
	}
}

// Nothing, less than a block, whole blocks alone, and some bytes behind them, of both texts.
func TestP3_1EveryLength(t *testing.T) {
	for n := range 100 {
		for _, m := range []int{0, 1, 15, 16, 17, 32, 40, n} {
			seed := uint32(100*n + m)
			key, nonce := sample(seed, 16+16*(n%2)), sample(seed+1, 1+n%15)
			checkBook(t, key, nonce, sample(seed+2, m), sample(seed+3, n))
			checkBook(t, key, nonce, sample(seed+2, n), sample(seed+3, m))
		}
	}
	for _, x := range []byte{0, 255} {
		for n := range 50 {
			b := slices.Repeat([]byte{x}, 50)
			checkBook(t, b[:16], b[:15], b[:n], b[:n])
			checkBook(t, b[:32], b[:1], b[:n], b[:n])
		}
	}
}

// As many blocks as need L(0) to L(11), and, with some bytes behind them, to L(10), in both texts.
func TestP3_1LongTexts(t *testing.T) {
	for _, n := range []int{2048 * 16, 1025*16 - 1} {
		checkBook(t, sample(1, 32), sample(2, 15), sample(3, 20), sample(4, n))
		checkBook(t, sample(1, 16), sample(2, 12), sample(3, n), sample(4, 20))
	}
}

// Each value of Bottom, in each length of nonces; the bits ahead of it noughts, ones, or some.
func TestP3_1EveryBottom(t *testing.T) {
	for n := 1; n <= 15; n++ {
		for bottom := range byte(64) {
			for i, nonce := range [][]byte{make([]byte, n), slices.Repeat([]byte{255}, n), sample(uint32(bottom), n)} {
				nonce[n-1] = nonce[n-1]&^63 | bottom
				checkBook(t, sample(5, 16+16*(i%2)), nonce, sample(6, 5), sample(7, 21))
			}
		}
	}
}

// Nonces that differ by noughts ahead, or by a 1, are different ones.
func TestP3_1NoncesAlike(t *testing.T) {
	key := sample(8, 32)
	nonces := [][]byte{{0}, {0, 0}, {1}, {0, 1}, {1, 0}, {1, 1}, make([]byte, 14), make([]byte, 15)}
	for i, nonce := range nonces {
		sealed, e := Seal(key, nonce, nil, nil)
		if e != api.OK {
			t.Fatal(nonce, e)
		}
		for j, other := range nonces {
			if i != j {
				refused(t, "a nonce alike", key, other, nil, sealed)
			}
		}
	}
}

func TestP3_1KeyLengths(t *testing.T) {
	nonce, ad, text := sample(9, 12), sample(10, 7), sample(11, 30)
	for n := range 100 {
		key := sample(12, n)
		if n == 16 || n == 32 {
			checkBook(t, key, nonce, ad, text)
			continue
		}
		notTaken(t, key, nonce, ad, text)
	}
	notTaken(t, nil, nonce, ad, text)
	notTaken(t, sample(12, 1000), nonce, ad, text)
}

func TestP3_1NonceLengths(t *testing.T) {
	ad, text := sample(13, 7), sample(14, 30)
	for _, k := range []int{16, 32} {
		key := sample(15, k)
		for n := range 100 {
			nonce := sample(16, n)
			if n >= 1 && n <= 15 {
				checkBook(t, key, nonce, ad, text)
				continue
			}
			notTaken(t, key, nonce, ad, text)
		}
		notTaken(t, key, nil, ad, text)
		notTaken(t, key, sample(16, 256+12), ad, text)
	}
	notTaken(t, nil, nil, nil, nil)
}

// notTaken holds both calls to ErrArg, and nothing beside it: it goes ahead of ErrAuth, also where fewer bytes than a tag are to be opened.
func notTaken(t *testing.T, key, nonce, ad, text []byte) {
	t.Helper()
	if out, e := Seal(key, nonce, ad, text); e != api.ErrArg || out != nil {
		t.Errorf("Seal, %d and %d bytes: %x, %v", len(key), len(nonce), out, e)
	}
	for _, sealed := range [][]byte{text, text[:min(len(text), 15)], nil} {
		if out, e := Open(key, nonce, ad, sealed); e != api.ErrArg || out != nil {
			t.Errorf("Open, %d and %d bytes: %x, %v", len(key), len(nonce), out, e)
		}
	}
}

// Nil and empty are the same.
func TestP3_1Nothing(t *testing.T) {
	key, nonce := count(16), unhex(t, "bbaa99887766554433221100")
	want := unhex(t, "785407bfffc8ad9edcc5520ac9111ee6")
	for _, ad := range [][]byte{nil, {}} {
		for _, plain := range [][]byte{nil, {}} {
			check(t, key, nonce, ad, plain, want)
		}
		refused(t, "nothing", key, nonce, ad, nil)
		refused(t, "no bytes", key, nonce, ad, []byte{})
	}
}

// Each bit of what is sealed, of the associated bytes, of the nonce and of the key is held.
func TestP3_1TurnedBits(t *testing.T) {
	for _, n := range []int{0, 1, 15, 16, 17, 32, 40} {
		for _, k := range []int{16, 32} {
			key, nonce, ad := sample(17, k), sample(18, 1+n%15), sample(19, n)
			sealed := newBook(t, key).seal(nonce, ad, sample(20, n))
			for bit := range 8 * len(sealed) {
				refused(t, "a bit of the sealed", key, nonce, ad, turned(sealed, bit))
			}
			for bit := range 8 * len(ad) {
				refused(t, "a bit of the associated", key, nonce, turned(ad, bit), sealed)
			}
			for bit := range 8 * len(nonce) {
				refused(t, "a bit of the nonce", key, turned(nonce, bit), ad, sealed)
			}
			for bit := range 8 * k {
				refused(t, "a bit of the key", turned(key, bit), nonce, ad, sealed)
			}
		}
	}
}

// turned answers b with one bit turned.
func turned(b []byte, bit int) []byte {
	b = slices.Clone(b)
	b[bit/8] ^= 1 << (bit % 8)
	return b
}

// What is cut off, ahead or behind, or longer, is refused; fewer bytes than a tag among it.
func TestP3_1CutOrLonger(t *testing.T) {
	for _, n := range []int{0, 1, 15, 16, 17, 48, 50} {
		key, nonce, ad := sample(21, 32), sample(22, 15), sample(23, 20)
		sealed := newBook(t, key).seal(nonce, ad, sample(24, n))
		for cut := range sealed {
			refused(t, "cut", key, nonce, ad, sealed[:cut])
			refused(t, "cut ahead", key, nonce, ad, sealed[cut+1:])
		}
		for more := 1; more < 40; more++ {
			refused(t, "longer", key, nonce, ad, append(slices.Clone(sealed), make([]byte, more)...))
			refused(t, "longer ahead", key, nonce, ad, append(make([]byte, more), sealed...))
		}
		for other := range 40 {
			if other != len(ad) {
				refused(t, "others associated", key, nonce, sample(23, other), sealed)
			}
		}
		refused(t, "the nonce cut", key, nonce[:14], ad, sealed)
		refused(t, "half the key", key[:16], nonce, ad, sealed)
	}
}

// What stands behind the last whole block isn't the same as with 128 and noughts written out.
func TestP3_1PaddingWrittenOut(t *testing.T) {
	key, nonce := sample(25, 16), sample(26, 12)
	for n := range 16 {
		short := sample(27, n)
		full := append(slices.Clone(short), 128)
		full = append(full, make([]byte, 16-len(full))...)
		refused(t, "associated", key, nonce, full, newBook(t, key).seal(nonce, short, nil))
		refused(t, "associated", key, nonce, short, newBook(t, key).seal(nonce, full, nil))
	}
}

// Blocks in another order, and texts of which one is the other, are refused.
func TestP3_1Order(t *testing.T) {
	key, nonce, ad := sample(28, 32), sample(29, 12), sample(30, 64)
	sealed := newBook(t, key).seal(nonce, ad, sample(31, 64))
	for i := range 4 {
		for j := range i {
			refused(t, "two blocks swapped", key, nonce, ad, swapped(sealed, 16*i, 16*j))
			refused(t, "two associated swapped", key, nonce, swapped(ad, 16*i, 16*j), sealed)
		}
	}
	zero := make([]byte, 16)
	refused(t, "associated as plain", key, nonce, nil, newBook(t, key).seal(nonce, zero, nil))
	refused(t, "plain as associated", key, nonce, zero, newBook(t, key).seal(nonce, nil, zero))
}

// swapped answers b with the blocks at i and j in each other's place.
func swapped(b []byte, i, j int) []byte {
	s := slices.Clone(b)
	copy(s[i:i+16], b[j:])
	copy(s[j:j+16], b[i:])
	return s
}

func TestP3_2Back(t *testing.T) {
	for n := range 600 {
		seed := uint32(n)
		key, nonce := sample(seed, 16+16*(n%2)), sample(seed+1, 1+n%15)
		ad, plain := sample(seed+2, n*7%50), sample(seed+3, n)
		sealed, e := Seal(key, nonce, ad, plain)
		if e != api.OK || len(sealed) != n+16 {
			t.Fatal(n, len(sealed), e)
		}
		if out, e := Open(key, nonce, ad, sealed); e != api.OK || !slices.Equal(out, plain) {
			t.Fatalf("%d: %x, %v", n, out, e)
		}
	}
}

func TestP3_2BackLong(t *testing.T) {
	key, nonce, ad, plain := sample(32, 32), sample(33, 15), sample(34, 70001), sample(35, 1<<17+5)
	sealed, e := Seal(key, nonce, ad, plain)
	if e != api.OK {
		t.Fatal(e)
	}
	if out, e := Open(key, nonce, ad, sealed); e != api.OK || !slices.Equal(out, plain) {
		t.Fatal(len(out), e)
	}
}
