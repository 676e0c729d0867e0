package cert

import (
	"bytes"
	"crypto/sha512"
	"math/big"
	"slices"
	"testing"

	"postilion/api"
)

// right answers a key and a question that Check answers with the time 99.
func right() (api.Key, question) {
	k := drawn(10).key()
	signer := [32]byte([]byte("a fingerprint of thirty-two byte"))
	what := []byte("what is signed")
	body := modelledSignature(k, 24, 99, [32]byte{1, 2, 3}, signer, what).body()
	return k, question{modelledSign(k), signer, body, 24, what}
}

func TestP14_1CheckHolds(t *testing.T) {
	_, q := right()
	q.holds(t, 99)
}

// A body of each number of bytes but 152; of none, nil or not.
func TestP14_1CheckSizes(t *testing.T) {
	_, q := right()
	whole := q.body
	long := append(slices.Clone(whole), make([]byte, 400)...)
	for n := range len(long) + 1 {
		q.body = long[:n]
		if n == 152 {
			q.holds(t, 99)
		} else {
			q.fails(t, api.ErrForm)
		}
	}
	for _, body := range [][]byte{nil, {}, whole[1:], append([]byte{6}, whole...), append(slices.Clone(whole), whole...), make([]byte, 152), bytes.Repeat([]byte{255}, 152), filled(1 << 20)} {
		q.body = body
		q.fails(t, api.ErrForm)
	}
	// The size is asked by itself: of bytes that are no signature either, all is ErrForm.
	q.body = append(slices.Clone(whole[:151]), whole[151]^1, 0)
	q.fails(t, api.ErrForm)
}

// loose tells whether a body's byte may be another one in a signature packet of that type and signer: those of the time, of the hash's start, of the salt and of the signature.
func loose(i int) bool {
	return i >= 10 && i < 14 || i == 53 || i == 54 || i >= 56
}

// Each single byte another one: of form are all that stand there the same in each packet of that type and signer.
func TestP14_1CheckEachByte(t *testing.T) {
	t.Parallel()
	_, q := right()
	whole, forms, sigs := q.body, 0, 0
	for i := range whole {
		for d := 1; d < 256; d++ {
			if i >= 88 && !slices.Contains([]int{1, 2, 4, 8, 16, 32, 64, 128, 255}, d) {
				continue
			}
			q.body = slices.Clone(whole)
			q.body[i] ^= byte(d)
			if loose(i) {
				q.fails(t, api.ErrSig)
				sigs++
			} else {
				q.fails(t, api.ErrForm)
				forms++
			}
		}
	}
	if forms != 255*(152-4-2-32-64) || sigs != 255*(4+2+32)+9*64 {
		t.Errorf("%d of form, %d of signatures", forms, sigs)
	}
}

// Two bytes that are others: the form is asked ahead of the signature.
func TestP14_1CheckFormAhead(t *testing.T) {
	_, q := right()
	whole := q.body
	for i := range whole {
		if loose(i) {
			continue
		}
		for _, j := range []int{10, 13, 53, 54, 56, 87, 88, 119, 120, 151} {
			q.body = slices.Clone(whole)
			q.body[i]++
			q.body[j]++
			q.fails(t, api.ErrForm)
		}
	}
}

// A body that says a type, and is signed so, but is asked for as another one.
func TestP14_1CheckTypes(t *testing.T) {
	k, q := right()
	for kind := range 256 {
		q.body = modelledSignature(k, byte(kind), 99, [32]byte{}, q.signer, q.what).body()
		for _, asked := range []int{kind, 0, 24, 31, kind ^ 1, kind ^ 128, 255} {
			q.kind = byte(asked)
			if asked == kind {
				q.holds(t, 99)
			} else {
				q.fails(t, api.ErrForm)
			}
		}
	}
}

// The signer's each bit, in what is asked for and in what is signed.
func TestP14_1CheckSigners(t *testing.T) {
	k, q := right()
	for bit := range 256 {
		other := q
		other.signer[bit/8] ^= 1 << (bit % 8)
		other.fails(t, api.ErrForm)
		other.body = modelledSignature(k, 24, 99, [32]byte{}, other.signer, q.what).body()
		if bit%16 == 0 {
			other.holds(t, 99)
		}
		other.signer = q.signer
		other.fails(t, api.ErrForm)
	}
	q.signer = [32]byte{}
	q.fails(t, api.ErrForm)
}

// Other public keys: somebody else's, one with a bit of its own changed, those that are no point or of small order.
func TestP14_1CheckPublics(t *testing.T) {
	_, q := right()
	public := q.public
	for _, k := range keys(10) {
		q.public = modelledSign(k)
		q.fails(t, api.ErrSig)
	}
	for bit := range 256 {
		q.public = public
		q.public[bit/8] ^= 1 << (bit % 8)
		q.fails(t, api.ErrSig)
	}
	noPoint := [32]byte{2}
	for _, q.public = range [][32]byte{{}, {1}, noPoint, full(), {31: 128}, {1, 31: 128}} {
		q.fails(t, api.ErrSig)
		// The form is asked ahead of the key.
		wrong := q
		wrong.kind++
		wrong.fails(t, api.ErrForm)
	}
}

// A key of small order, under which R = 0 and S = 0 would be right by an equation alone.
func TestP14_1CheckSmallOrder(t *testing.T) {
	_, q := right()
	neutral := [32]byte{1}
	copy(q.body[88:], make([]byte, 64))
	copy(q.body[88:], neutral[:])
	q.public = neutral
	q.fails(t, api.ErrSig)
}

// A second half that isn't below L, but the same modulo it: layer 7 refuses it by form, which is a signature that isn't verified.
func TestP14_1CheckNotCanonical(t *testing.T) {
	_, q := right()
	order, _ := new(big.Int).SetString("7237005577332262213973186563042994240857116359379907606001950938285454250989", 10)
	half := slices.Clone(q.body[120:])
	slices.Reverse(half)
	s := new(big.Int).SetBytes(half)
	if s.Cmp(order) >= 0 {
		t.Fatalf("%v isn't below L", s)
	}
	s.Add(s, order).FillBytes(half)
	slices.Reverse(half)
	q.body = slices.Concat(q.body[:120], half)
	q.fails(t, api.ErrSig)
}

// What is signed, each bit of it another one, a byte more, a byte fewer, or none.
func TestP14_1CheckWhat(t *testing.T) {
	_, q := right()
	what := q.what
	for bit := range 8 * len(what) {
		q.what = slices.Clone(what)
		q.what[bit/8] ^= 1 << (bit % 8)
		q.fails(t, api.ErrSig)
	}
	for _, q.what = range [][]byte{nil, {}, what[1:], what[:len(what)-1], append([]byte{0}, what...), append(slices.Clone(what), 0), append(slices.Clone(what), what...), filled(1 << 20)} {
		q.fails(t, api.ErrSig)
		q.kind++
		q.fails(t, api.ErrForm)
		q.kind--
	}
}

// resigned answers a body of changed pieces that is signed once more, so that only its form may be wrong.
func resigned(k api.Key, what []byte, change func(*modelled)) []byte {
	m := modelledSignature(k, 24, 99, [32]byte{1, 2, 3}, [32]byte([]byte("a fingerprint of thirty-two byte")), what)
	m.head = slices.Clone(m.head)
	change(&m)
	return m.signed(k, what).body()
}

// Each byte ahead of the hash's start and the salt's size, with a signature that is right of it: the time's are another time, of all others the form is wrong.
func TestP14_1CheckResigned(t *testing.T) {
	k, q := right()
	for i := range 49 {
		for _, d := range []byte{1, 4, 16, 128, 255} {
			q.body = resigned(k, q.what, func(m *modelled) { m.head[i] ^= d })
			if i >= 10 && i < 14 {
				q.holds(t, 99^uint32(d)<<(8*(13-i)))
			} else {
				q.fails(t, api.ErrForm)
			}
		}
	}
	for i := range 4 {
		q.body = resigned(k, q.what, func(m *modelled) { m.unsigned[i] = 1 })
		q.fails(t, api.ErrForm)
	}
	for size := range 256 {
		q.body = resigned(k, q.what, func(m *modelled) { m.saltSize = []byte{byte(size)} })
		if size == 32 {
			q.holds(t, 99)
		} else {
			q.fails(t, api.ErrForm)
		}
	}
}

// Signatures of other subpackets, which OpenPGP knows, but which are none of the chapter's.
func TestP14_1CheckOtherSubpackets(t *testing.T) {
	k, q := right()
	made, signer := []byte{5, 2, 0, 0, 0, 99}, append([]byte{34, 33, 6}, q.signer[:]...)
	critical := append([]byte{34, 33 | 128, 6}, q.signer[:]...)
	for _, subpackets := range [][]byte{
		{}, made, signer, slices.Concat(signer, made), slices.Concat(made, critical), slices.Concat(made, signer, made),
		slices.Concat(made, signer, []byte{1, 100}), slices.Concat([]byte{2, 27, 3}, made, signer), slices.Concat(made, made, signer),
	} {
		q.body = resigned(k, q.what, func(m *modelled) {
			m.head = slices.Concat([]byte{6, 24, 27, 10, 0, 0, 0, byte(len(subpackets))}, subpackets)
		})
		q.fails(t, api.ErrForm)
	}
	q.body = resigned(k, q.what, func(m *modelled) {
		m.head = slices.Concat([]byte{6, 24, 27, 10, 0, 0, 0, 41}, made, signer)
	})
	q.holds(t, 99)
	q.body = resigned(k, q.what, func(m *modelled) { m.unsigned = []byte{0, 0, 0, 2, 1, 100} })
	q.fails(t, api.ErrForm)
	q.body = resigned(k, q.what, func(m *modelled) { m.salt, m.saltSize = make([]byte, 16), []byte{16} })
	q.fails(t, api.ErrForm)
	q.body = resigned(k, q.what, func(m *modelled) { m.salt, m.saltSize = nil, []byte{0} })
	q.fails(t, api.ErrForm)
}

// The hash's first two bytes are asked, though the signature is right; and a signature of the hash of other pieces isn't.
func TestP14_1CheckHash(t *testing.T) {
	k, q := right()
	m := modelledSignature(k, 24, 99, [32]byte{1, 2, 3}, q.signer, q.what)
	for i := range 2 {
		other := m
		other.start = slices.Clone(m.start)
		other.start[i] ^= 1
		q.body = other.body()
		q.fails(t, api.ErrSig)
	}
	other := m
	other.start = []byte{m.start[1], m.start[0]}
	q.body = other.body()
	q.fails(t, api.ErrSig)
	trailer := []byte{6, 255, 0, 0, 0, 49}
	for _, pieces := range [][]byte{
		slices.Concat(q.what, m.head, trailer),
		slices.Concat(q.what, m.salt, m.head, trailer),
		slices.Concat(m.salt, m.head, q.what, trailer),
		slices.Concat(m.salt, q.what, trailer),
		slices.Concat(m.salt, q.what, m.head),
		slices.Concat(m.salt, q.what, m.head, []byte{4, 255, 0, 0, 0, 49}),
		slices.Concat(m.salt, q.what, m.head, []byte{6, 255, 0, 0, 0, 41}),
		slices.Concat(m.salt, q.what, m.head, []byte{6, 255, 49, 0, 0, 0}),
		slices.Concat([]byte{32}, m.salt, q.what, m.head, trailer),
	} {
		hash := sha512.Sum512(pieces)
		q.body = m.under(k, hash[:]).body()
		q.fails(t, api.ErrSig)
	}
	right := sha512.Sum512(slices.Concat(m.salt, q.what, m.head, trailer))
	q.body = m.under(k, right[:]).body()
	q.holds(t, 99)
}
