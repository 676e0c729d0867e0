package x3dh

import (
	"testing"

	"postilion/api"
)

// asked answers secrets and two public keys of which Answer tells something.
func asked() (s Secrets, id, drawn [32]byte) {
	d := drawnBy(30)
	return d.secrets(), modelledPublic(d.array()), modelledPublic(d.array())
}

func TestP18_1Answer(t *testing.T) {
	for _, s := range several(5) {
		for _, once := range []bool{false, true} {
			for i, id := range arrays(2) {
				tells(t, s, once, modelledPublic(id), modelledPublic(arrays(6)[11-i]))
			}
		}
	}
	s, _, _ := asked()
	for _, id := range arrays(2) {
		for _, drawn := range arrays(2) {
			tells(t, s, true, modelledPublic(id), modelledPublic(drawn))
		}
	}
}

// All shared secrets go in, in their order: changed over, other ones come out.
func TestP18_1AnswerEachSecret(t *testing.T) {
	s, id, drawn := asked()
	seen, tried := map[[32]byte]int{}, 0
	try := func(s Secrets, once bool, id, drawn [32]byte) {
		seen[tells(t, s, once, id, drawn)]++
		tried++
	}
	try(s, true, id, drawn)
	try(s, false, id, drawn)
	for _, once := range []bool{false, true} {
		try(s, once, drawn, id)
		try(s, once, id, id)
		try(s, once, drawn, drawn)
		try(Secrets{ID: s.Pre, Pre: s.ID, Once: s.Once}, once, id, drawn)
		try(Secrets{ID: s.Once, Pre: s.Pre, Once: s.ID}, once, id, drawn)
		try(Secrets{ID: s.ID, Pre: s.Once, Once: s.Pre}, once, id, drawn)
	}
	if len(seen) != tried {
		t.Errorf("%d secrets of %d", len(seen), tried)
	}
}

// Each other bit of a secret makes another one, but those that X25519 clears and sets; without once, no bit of Once counts, and the seed's never do.
func TestP18_1AnswerEachBit(t *testing.T) {
	t.Parallel()
	s, id, drawn := asked()
	for _, once := range []bool{false, true} {
		want := tells(t, s, once, id, drawn)
		for bit := range 256 {
			counts := bit > 2 && bit < 254
			for i := range 4 {
				other := s
				place := []*[32]byte{&other.ID, &other.Pre, &other.Once, &other.Sign}[i]
				place[bit/8] ^= 1 << (bit % 8)
				if x := tells(t, other, once, id, drawn); (x != want) != (counts && (i < 2 || i == 2 && once)) {
					t.Errorf("once %v, bit %d of the secret %d: %x", once, bit, i, x)
				}
			}
		}
	}
}

// Without once, the secrets' Once counts for nothing, and what signs counts for nothing ever.
func TestP18_1AnswerLooksAtNoMore(t *testing.T) {
	s, id, drawn := asked()
	without, with := tells(t, s, false, id, drawn), tells(t, s, true, id, drawn)
	for _, other := range append(arrays(10), s.ID, s.Pre) {
		c := s
		c.Once = other
		if x := tells(t, c, false, id, drawn); x != without {
			t.Errorf("%x: %x, not %x", other, x, without)
		}
		if x := tells(t, c, true, id, drawn); x == with || x == without {
			t.Errorf("%x: %x", other, x)
		}
		c = s
		c.Sign = other
		if x := tells(t, c, true, id, drawn); x != with {
			t.Errorf("%x: %x, not %x", other, x, with)
		}
	}
}

// A public key of small order: each of the two alone, or both, with once and without.
func TestP18_1AnswerSmallOrder(t *testing.T) {
	_, id, drawn := asked()
	for _, u := range smalls() {
		for _, s := range several(3) {
			for _, once := range []bool{false, true} {
				fails(t, s, once, u, drawn)
				fails(t, s, once, id, u)
				fails(t, s, once, u, u)
				fails(t, s, once, u, smalls()[2])
			}
		}
	}
}

// Keys beside those of small order are none of them.
func TestP18_1AnswerBesideSmallOrder(t *testing.T) {
	s, id, drawn := asked()
	for _, u := range smalls() {
		u[1] ^= 1
		for _, once := range []bool{false, true} {
			tells(t, s, once, u, drawn)
			tells(t, s, once, id, u)
			tells(t, s, once, u, u)
		}
	}
}

// The highest bit of a public key counts for nothing.
func TestP18_1AnswerHighestBit(t *testing.T) {
	s, id, drawn := asked()
	for _, once := range []bool{false, true} {
		want := tells(t, s, once, id, drawn)
		for _, c := range [][2][32]byte{{high(id), drawn}, {id, high(drawn)}, {high(id), high(drawn)}} {
			if x := tells(t, s, once, c[0], c[1]); x != want {
				t.Errorf("%x: %x, not %x", c, x, want)
			}
		}
	}
}

// Keys need not be anybody's, nor below p.
func TestP18_1AnswerAnyKeys(t *testing.T) {
	s, id, drawn := asked()
	most := full()
	most[31] = 127
	seen, tried := map[[32]byte]int{}, 0
	for _, u := range append(arrays(20)[1:], [32]byte{2}, most) {
		for _, once := range []bool{false, true} {
			seen[tells(t, s, once, u, drawn)]++
			seen[tells(t, s, once, id, u)]++
			seen[tells(t, s, once, u, u)]++
			tried += 3
		}
	}
	// 32 bytes 255 and the same without the highest bit are one key, two times three secrets.
	if len(seen) != tried-6 {
		t.Errorf("%d secrets of %d", len(seen), tried)
	}
}

// answersAsModelled holds that Answer answers what the model does, and answers its error.
func answersAsModelled(t *testing.T, s Secrets, once bool, id, drawn [32]byte) api.Errno {
	t.Helper()
	_, e := modelledAnswer(s, once, id, drawn)
	if e == api.OK {
		tells(t, s, once, id, drawn)
	} else {
		fails(t, s, once, id, drawn)
	}
	return e
}

// Whatever is drawn is answered as the model does.
func TestP18_1AnswerDrawn(t *testing.T) {
	d := drawnBy(31)
	told := map[api.Errno]int{}
	draw := func() [32]byte {
		if d.IntN(4) == 0 {
			return smalls()[d.IntN(14)]
		}
		return d.array()
	}
	for range 1000 {
		s, once, id, drawn := d.secrets(), d.once(), draw(), draw()
		told[answersAsModelled(t, s, once, id, drawn)]++
	}
	if told[api.OK] < 200 || told[api.ErrForm] < 200 || len(told) != 2 {
		t.Errorf("%v", told)
	}
}

// Whatever comes in is what the model says.
func FuzzP18_1Answer(f *testing.F) {
	s, id, drawn := asked()
	f.Add(s.ID[:], s.Pre[:], s.Once[:], true, id[:], drawn[:])
	f.Add(s.ID[:], s.Pre[:], []byte{}, false, id[:], drawn[:])
	f.Add(s.ID[:], s.Pre[:], []byte{}, true, id[:], []byte{1})
	f.Fuzz(func(t *testing.T, who, pre, used []byte, once bool, theirs, drew []byte) {
		var s Secrets
		var id, drawn [32]byte
		copy(s.ID[:], who)
		copy(s.Pre[:], pre)
		copy(s.Once[:], used)
		copy(id[:], theirs)
		copy(drawn[:], drew)
		answersAsModelled(t, s, once, id, drawn)
	})
}
