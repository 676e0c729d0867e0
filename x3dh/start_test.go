package x3dh

import (
	"crypto/ed25519"
	"slices"
	"testing"

	"postilion/api"
)

// right answers two secrets and a bundle with which Start tells something, and the seed that signed it.
func right(once bool) (id, drawn [32]byte, b Bundle, seed [32]byte) {
	d := drawnBy(20)
	s := d.secrets()
	return d.array(), d.array(), modelledPublish(s, once), s.Sign
}

func TestP18_1Start(t *testing.T) {
	for _, s := range several(5) {
		for _, once := range []bool{false, true} {
			b := modelledPublish(s, once)
			for i, id := range arrays(2) {
				starts(t, id, arrays(6)[11-i], b)
			}
		}
	}
	_, _, b, _ := right(true)
	for _, id := range arrays(2) {
		for _, drawn := range arrays(2) {
			starts(t, id, drawn, b)
		}
	}
}

// The four shared secrets go in one behind the other, and all of them: changed over, other ones come out.
func TestP18_1StartEachSecret(t *testing.T) {
	id, drawn, b, seed := right(true)
	seen := map[[32]byte]int{}
	tried := 0
	try := func(id, drawn [32]byte, b Bundle) {
		seen[starts(t, id, drawn, signed(b, seed))]++
		tried++
	}
	try(id, drawn, b)
	try(drawn, id, b)
	try(id, id, b)
	try(drawn, drawn, b)
	try(id, drawn, Bundle{ID: b.Pre, Pre: b.ID, Once: b.Once})
	try(id, drawn, Bundle{ID: b.Once, Pre: b.Pre, Once: b.ID})
	try(id, drawn, Bundle{ID: b.ID, Pre: b.Once, Once: b.Pre})
	try(id, drawn, Bundle{ID: b.ID, Pre: b.Pre})
	try(id, drawn, Bundle{ID: b.ID, Pre: b.Pre, Once: b.Pre})
	if len(seen) != tried {
		t.Errorf("%d secrets of %d", len(seen), tried)
	}
}

// Each other bit of the two secrets makes another secret, but those that X25519 clears and sets.
func TestP18_1StartEachBit(t *testing.T) {
	id, drawn, b, _ := right(true)
	want := starts(t, id, drawn, b)
	for bit := range 256 {
		counts := bit > 2 && bit < 254
		one, other := id, drawn
		one[bit/8] ^= 1 << (bit % 8)
		other[bit/8] ^= 1 << (bit % 8)
		if x := starts(t, one, drawn, b); (x != want) != counts {
			t.Errorf("bit %d of id: %x", bit, x)
		}
		if x := starts(t, id, other, b); (x != want) != counts {
			t.Errorf("bit %d of what is drawn: %x", bit, x)
		}
	}
}

// Each single byte of Sig, Pre or Sign another one: nothing is verified.
func TestP18_1StartEachByte(t *testing.T) {
	t.Parallel()
	for _, once := range []bool{false, true} {
		id, drawn, b, _ := right(once)
		starts(t, id, drawn, b)
		for _, d := range []byte{1, 2, 4, 8, 16, 32, 64, 128, 255} {
			for i := range 64 {
				bad := b
				bad.Sig[i] ^= d
				refuses(t, id, drawn, bad, api.ErrSig)
			}
			for i := range 32 {
				bad := b
				bad.Pre[i] ^= d
				refuses(t, id, drawn, bad, api.ErrSig)
				bad = b
				bad.Sign[i] ^= d
				refuses(t, id, drawn, bad, api.ErrSig)
			}
		}
	}
}

// Pre is another key, one of the bundle's own, or none at all.
func TestP18_1StartOtherPre(t *testing.T) {
	for _, once := range []bool{false, true} {
		id, drawn, b, _ := right(once)
		others := append(arrays(10), b.ID, modelledPublic([32]byte{1}), b.Sign, [32]byte(b.Sig[:32]), high(b.Pre))
		for _, pre := range append(others, smalls()...) {
			bad := b
			bad.Pre = pre
			refuses(t, id, drawn, bad, api.ErrSig)
		}
	}
}

// The signature is somebody else's, or one of something else, or none.
func TestP18_1StartOtherSig(t *testing.T) {
	id, drawn, b, seed := right(true)
	of := func(pre [32]byte) [64]byte { return signed(Bundle{Pre: pre}, seed).Sig }
	for _, sig := range [][64]byte{
		{}, [64]byte(slices.Repeat([]byte{255}, 64)), of(b.ID), of(b.Once), of(b.Sign), of([32]byte{}), of(high(b.Pre)),
		signed(b, [32]byte{1}).Sig, signed(b, b.Sign).Sig,
		[64]byte(slices.Concat(b.Sig[32:], b.Sig[:32])), [64]byte(slices.Concat(b.Sig[:32], make([]byte, 32))),
	} {
		bad := b
		bad.Sig = sig
		refuses(t, id, drawn, bad, api.ErrSig)
	}
	for _, sign := range append(arrays(10), b.ID, b.Pre, b.Once, seed, signed(b, [32]byte{1}).Sign) {
		bad := b
		bad.Sign = sign
		refuses(t, id, drawn, bad, api.ErrSig)
	}
	refuses(t, id, drawn, Bundle{}, api.ErrSig)
	refuses(t, [32]byte{}, [32]byte{}, Bundle{ID: b.ID, Pre: b.Pre, Once: b.Once}, api.ErrSig)
	// Somebody else's is as good, if it is signed by their own key.
	starts(t, id, drawn, signed(b, [32]byte{1}))
}

// What layer 7 refuses by form isn't verified either: a key of small order, with which everybody's signature holds, bytes that are no point, and S that is L more.
func TestP18_1StartNoSignature(t *testing.T) {
	id, drawn, b, _ := right(true)
	for _, sign := range [][32]byte{{1}, {}, {31: 128}, {2}, full(), high([32]byte{1})} {
		for _, first := range [][32]byte{{1}, sign} {
			bad := b
			bad.Sign, bad.Sig = sign, [64]byte{}
			copy(bad.Sig[:], first[:])
			if sign == [32]byte{1} && !ed25519.Verify(bad.Sign[:], bad.Pre[:], bad.Sig[:]) {
				t.Error("with the neutral point as the key, the equation doesn't hold")
			}
			refuses(t, id, drawn, bad, api.ErrSig)
		}
	}
	order := [32]byte{
		0xed, 0xd3, 0xf5, 0x5c, 0x1a, 0x63, 0x12, 0x58, 0xd6, 0x9c, 0xf7, 0xa2, 0xde, 0xf9, 0xde, 0x14, 31: 16,
	}
	bad, carry := b, 0
	for i, x := range order {
		carry += int(b.Sig[32+i]) + int(x)
		bad.Sig[32+i] = byte(carry)
		carry >>= 8
	}
	refuses(t, id, drawn, bad, api.ErrSig)
}

// small answers the bundle with keys of small order, each in the place that its bit of which says: 1 for ID, 2 for Pre, 4 for Once.
func small(b Bundle, u [32]byte, which int) Bundle {
	for i, place := range []*[32]byte{&b.ID, &b.Pre, &b.Once} {
		if which>>i&1 == 1 {
			*place = u
		}
	}
	return b
}

// A bundle that is rightly signed, with a key of small order in one place, in two, or in all three; signed or not, the signature is asked first.
func TestP18_1StartSmallOrder(t *testing.T) {
	for _, once := range []bool{false, true} {
		id, drawn, b, seed := right(once)
		for _, u := range smalls() {
			for which := 1; which < 8; which++ {
				bad := signed(small(b, u, which), seed)
				if which == 4 && u == [32]byte{} {
					// No Once at all.
					starts(t, id, drawn, bad)
				} else {
					refuses(t, id, drawn, bad, api.ErrForm)
				}
				bad.Sig[7] ^= 1
				refuses(t, id, drawn, bad, api.ErrSig)
				bad.Sig = [64]byte{}
				refuses(t, id, drawn, bad, api.ErrSig)
				bad = signed(bad, [32]byte{1})
				bad.Sign = b.Sign
				refuses(t, id, drawn, bad, api.ErrSig)
			}
		}
	}
}

// Whatever the two secrets are, nothing is shared with a key of small order.
func TestP18_1StartSmallOrderAnySecrets(t *testing.T) {
	_, _, b, seed := right(true)
	for i, u := range smalls() {
		for j, id := range arrays(2) {
			drawn := arrays(8)[(i+j)%8]
			refuses(t, id, drawn, signed(small(b, u, 1), seed), api.ErrForm)
			refuses(t, id, drawn, signed(small(b, u, 2), seed), api.ErrForm)
			if u != [32]byte{} {
				refuses(t, id, drawn, signed(small(b, u, 4), seed), api.ErrForm)
			}
		}
	}
}

// Keys beside those of small order are none of them.
func TestP18_1StartBesideSmallOrder(t *testing.T) {
	id, drawn, b, seed := right(true)
	for _, u := range smalls() {
		u[1] ^= 1
		for which := 1; which < 8; which++ {
			starts(t, id, drawn, signed(small(b, u, which), seed))
		}
	}
}

// A Once of noughts is none: there are three shared secrets, and no fourth one of 0.
func TestP18_1StartNoOnce(t *testing.T) {
	for _, once := range []bool{false, true} {
		id, drawn, b, _ := right(once)
		b.Once = [32]byte{}
		first, second, third := modelledShared(id, b.Pre), modelledShared(drawn, b.ID), modelledShared(drawn, b.Pre)
		want, _ := modelledSecret(first, second, third)
		four, _ := modelledSecret(first, second, third, make([]byte, 32))
		if x := starts(t, id, drawn, b); x != want || x == four {
			t.Errorf("%x, not %x", x, want)
		}
	}
	// One bit of it, and there is a Once; the highest one alone makes none that anything is shared with.
	id, drawn, b, _ := right(false)
	without := starts(t, id, drawn, b)
	for bit := range 256 {
		b.Once = [32]byte{}
		b.Once[bit/8] = 1 << (bit % 8)
		if bit == 0 || bit == 255 {
			refuses(t, id, drawn, b, api.ErrForm)
		} else if x := starts(t, id, drawn, b); x == without {
			t.Errorf("bit %d: %x", bit, x)
		}
	}
}

// ID and Once aren't signed: with other ones, another secret comes out, and no error.
func TestP18_1StartOtherKeys(t *testing.T) {
	id, drawn, b, _ := right(true)
	seen, tried := map[[32]byte]int{}, 0
	try := func(b Bundle) {
		seen[starts(t, id, drawn, b)]++
		tried++
	}
	try(b)
	for _, other := range append(arrays(10)[1:], b.Pre, b.Sign) {
		bad := b
		bad.ID = other
		try(bad)
		bad = b
		bad.Once = other
		try(bad)
	}
	if len(seen) != tried {
		t.Errorf("%d secrets of %d", len(seen), tried)
	}
}

// The highest bit of a public key counts for its signature alone.
func TestP18_1StartHighestBit(t *testing.T) {
	for _, once := range []bool{false, true} {
		id, drawn, b, seed := right(once)
		want := starts(t, id, drawn, b)
		for which := 1; which < 8; which++ {
			c := b
			for i, place := range []*[32]byte{&c.ID, &c.Pre, &c.Once} {
				if which>>i&1 == 1 && *place != [32]byte{} {
					*place = high(*place)
				}
			}
			if x := starts(t, id, drawn, signed(c, seed)); x != want {
				t.Errorf("%d: %x, not %x", which, x, want)
			}
			if which&2 != 0 {
				refuses(t, id, drawn, c, api.ErrSig)
			}
		}
	}
}

// Keys need not be anybody's, nor below p.
func TestP18_1StartAnyKeys(t *testing.T) {
	id, drawn, b, seed := right(true)
	most := full()
	most[31] = 127
	keys := append(arrays(20)[1:], [32]byte{2}, most, high(most))
	for i, u := range keys {
		for which := 1; which < 8; which++ {
			starts(t, id, drawn, signed(small(b, u, which), seed))
		}
		starts(t, id, drawn, signed(Bundle{ID: u, Pre: keys[(i+3)%len(keys)], Once: keys[(2*i+5)%len(keys)]}, u))
	}
}

// The same key in each place, and who starts with a bundle of their own.
func TestP18_1StartSameKeys(t *testing.T) {
	d := drawnBy(21)
	for range 20 {
		same := d.array()
		b := modelledPublish(Secrets{same, same, same, same}, d.once())
		starts(t, same, same, b)
		starts(t, d.array(), same, b)
		starts(t, same, d.array(), b)
	}
}

// startsAsModelled holds that Start answers what the model does, and answers its error.
func startsAsModelled(t *testing.T, id, drawn [32]byte, b Bundle) api.Errno {
	t.Helper()
	_, e := modelledStart(id, drawn, b)
	if e == api.OK {
		starts(t, id, drawn, b)
	} else {
		refuses(t, id, drawn, b, e)
	}
	return e
}

// Whatever is drawn is answered as the model does: right ones, and ones with flaws.
func TestP18_1StartDrawn(t *testing.T) {
	d := drawnBy(22)
	told := map[api.Errno]int{}
	for range 1200 {
		s := d.secrets()
		b := modelledPublish(s, d.once())
		for range d.IntN(3) {
			u := smalls()[d.IntN(14)]
			if d.IntN(2) == 0 {
				u = d.array()
			}
			b = small(b, u, 1<<d.IntN(3))
		}
		switch d.IntN(4) {
		case 0:
			b = signed(b, d.array())
		case 1, 2:
			b = signed(b, s.Sign)
		}
		if d.IntN(8) == 0 {
			b.Sig[d.IntN(64)] ^= byte(1 << d.IntN(8))
		}
		id, drawn := d.array(), d.array()
		told[startsAsModelled(t, id, drawn, b)]++
	}
	for _, e := range []api.Errno{api.OK, api.ErrForm, api.ErrSig} {
		if told[e] < 150 {
			t.Errorf("%v: told %d times", e, told[e])
		}
	}
}

// Whatever comes in is what the model says: what is signed, too, if there is a seed.
func FuzzP18_1Start(f *testing.F) {
	id, drawn, b, seed := right(true)
	f.Add(id[:], drawn[:], b.ID[:], b.Pre[:], b.Once[:], b.Sign[:], b.Sig[:], []byte{})
	f.Add(id[:], drawn[:], b.ID[:], b.Pre[:], []byte{}, []byte{}, []byte{}, seed[:])
	f.Add(id[:], drawn[:], b.ID[:], []byte{1}, []byte{}, []byte{}, []byte{}, seed[:])
	f.Fuzz(func(t *testing.T, me, drew, who, pre, once, sign, sig, seed []byte) {
		var id, drawn, by [32]byte
		var b Bundle
		copy(id[:], me)
		copy(drawn[:], drew)
		copy(b.ID[:], who)
		copy(b.Pre[:], pre)
		copy(b.Once[:], once)
		copy(b.Sign[:], sign)
		copy(b.Sig[:], sig)
		if copy(by[:], seed) > 0 {
			b = signed(b, by)
		}
		startsAsModelled(t, id, drawn, b)
	})
}
