package pkesk

import (
	"bytes"
	"slices"
	"testing"

	"postilion/api"
	"postilion/cert"
)

// right answers a body, the key that it is for, its certificate, and the session key that is sealed.
func right() ([]byte, api.Key, cert.Cert, [32]byte) {
	d := drawnBy(20)
	k, session := d.key(), d.array()
	to := cert.Of(k, 5)
	m, _ := modelledSeal(session[:], to, d.array())
	return m.body(), k, to, session
}

func TestP15_1OpenHolds(t *testing.T) {
	body, k, to, session := right()
	opens(t, body, k, to, session)
	for _, session := range arrays(20) {
		for _, drawn := range arrays(2) {
			m, _ := modelledSeal(session[:], to, drawn)
			opens(t, m.body(), k, to, session)
		}
	}
}

// A body of each number of bytes but 109; of none, nil or not; and a byte more at its beginning.
func TestP15_1OpenSizes(t *testing.T) {
	body, k, to, session := right()
	long := append(slices.Clone(body), make([]byte, 400)...)
	for n := range len(long) + 1 {
		if n == 109 {
			opens(t, long[:n], k, to, session)
		} else {
			refuses(t, long[:n], k, to, api.ErrForm)
		}
	}
	for _, b := range [][]byte{
		nil, {}, body[1:], append([]byte{6}, body...), append([]byte{0}, body...), append(slices.Clone(body), 255),
		append(slices.Clone(body), body...), make([]byte, 109), bytes.Repeat([]byte{255}, 109), make([]byte, 1<<20),
	} {
		refuses(t, b, k, to, api.ErrForm)
	}
}

// Each single byte another one: of form are all that are the same in each body.
func TestP15_1OpenEachByte(t *testing.T) {
	t.Parallel()
	body, k, to, _ := right()
	told := map[api.Errno]int{}
	for i := range body {
		for d := 1; d < 256; d++ {
			if i >= 36 && i != 68 && d&(d-1) != 0 && d != 255 {
				continue
			}
			want := api.ErrAuth
			switch {
			case i < 3 || i == 35 || i == 68:
				want = api.ErrForm
			case i < 35:
				want = api.ErrNone
			}
			b := slices.Clone(body)
			b[i] ^= byte(d)
			refuses(t, b, k, to, want)
			told[want]++
		}
	}
	if told[api.ErrForm] != 5*255 || told[api.ErrNone] != 32*255 || told[api.ErrAuth] != 72*9 {
		t.Errorf("%v", told)
	}
}

// Another key: somebody else's, one of which each bit of the secret is another one, and both halves changed over.
func TestP15_1OpenOtherKeys(t *testing.T) {
	t.Parallel()
	body, k, to, session := right()
	for _, other := range append(keys(20), api.Key{Sign: k.Box, Box: k.Sign}, api.Key{Sign: k.Sign}) {
		refuses(t, body, other, to, api.ErrAuth)
		refuses(t, body, other, cert.Of(other, 5), api.ErrNone)
	}
	for bit := range 256 {
		other := k
		other.Box[bit/8] ^= 1 << (bit % 8)
		if bit < 3 || bit > 253 {
			// X25519 clears or sets these.
			opens(t, body, other, to, session)
		} else {
			refuses(t, body, other, to, api.ErrAuth)
		}
	}
	// What k signs with has no part in it.
	for _, sign := range arrays(4) {
		opens(t, body, api.Key{Sign: sign, Box: k.Box}, to, session)
	}
}

// A certificate of another second fingerprint, by each bit; also of the same key at another time.
func TestP15_1OpenOtherFingerprints(t *testing.T) {
	body, k, to, _ := right()
	for bit := range 256 {
		other := to
		other.Prints[1][bit/8] ^= 1 << (bit % 8)
		refuses(t, body, k, other, api.ErrNone)
	}
	for _, print := range append(arrays(4), to.Prints[0], to.Sign, to.Box) {
		other := to
		other.Prints[1] = print
		refuses(t, body, k, other, api.ErrNone)
	}
	for _, time := range []uint32{0, 4, 6, 5 << 8, 4294967295} {
		refuses(t, body, k, cert.Of(k, time), api.ErrNone)
	}
	refuses(t, body, k, cert.Cert{}, api.ErrNone)
	changed := to
	changed.Prints = [2][32]byte{to.Prints[1], to.Prints[0]}
	refuses(t, body, k, changed, api.ErrNone)
}

// Of the certificate, Open looks at the second fingerprint alone: the receiver's public key is that of k.
func TestP15_1OpenLooksAtNoMore(t *testing.T) {
	body, k, to, session := right()
	for _, other := range append(append(arrays(4), smalls()...), to.Box, to.Prints[1]) {
		for _, change := range []func(*cert.Cert){
			func(c *cert.Cert) { c.Time = uint32(other[0]) << 24 },
			func(c *cert.Cert) { c.Sign = other },
			func(c *cert.Cert) { c.Box = other },
			func(c *cert.Cert) { c.Prints[0] = other },
			func(c *cert.Cert) { *c = cert.Cert{Prints: [2][32]byte{1: c.Prints[1]}} },
		} {
			c := to
			change(&c)
			opens(t, body, k, c, session)
			refuses(t, body, api.Key{Box: [32]byte{0, 5}}, c, api.ErrAuth)
		}
	}
	// So what was sealed for a Box with the highest bit, whose shared secret is the same, isn't sealed for k's public key.
	high := to
	high.Box[31] |= 128
	m, _ := modelledSeal(session[:], high, [32]byte{9})
	refuses(t, m.body(), k, high, api.ErrAuth)
	refuses(t, m.body(), k, to, api.ErrAuth)
}

// A drawn public key of small order shares no secret with anybody.
func TestP15_1OpenSmallOrder(t *testing.T) {
	body, k, to, session := right()
	for _, small := range smalls() {
		b := slices.Clone(body)
		copy(b[36:], small[:])
		for _, other := range append(keys(3), k) {
			refuses(t, b, other, to, api.ErrForm)
		}
		// Also if the session key is wrapped under the key of a shared secret 0.
		public := modelledPublic(k.Box)
		m := modelledBody(to.Prints[1], small, modelledKey(small, public, make([]byte, 32)), session[:])
		refuses(t, m.body(), k, to, api.ErrForm)
	}
}

// A drawn public key need not be one that Public answers: any bytes are, and they go into the key as they stand.
func TestP15_1OpenAnyPublic(t *testing.T) {
	_, k, to, session := right()
	d := drawnBy(21)
	for _, public := range append([][32]byte{{2}, {9}, {31: 64}, full(), to.Box}, arrays(20)[6:]...) {
		for range 2 {
			public[31] ^= 128
			shared, ok := modelledShared(k.Box, public)
			if !ok {
				t.Fatalf("%x is of small order", public)
			}
			m := modelledBody(to.Prints[1], public, modelledKey(public, modelledPublic(k.Box), shared), session[:])
			opens(t, m.body(), k, to, session)
			m.public = slices.Clone(m.public)
			m.public[31] ^= 128
			refuses(t, m.body(), k, to, api.ErrAuth)
			other := d.array()
			m.public = other[:]
			refuses(t, m.body(), k, to, api.ErrAuth)
		}
	}
}

// Session keys that are wrapped under another key than the chapter's: of other pieces, in another order, with a salt, with another info, or of 32 bytes.
func TestP15_1OpenOtherWraps(t *testing.T) {
	_, k, to, session := right()
	drawn := [32]byte{0, 3}
	public := modelledPublic(drawn)
	raw, _ := modelledShared(drawn, to.Box)
	shared := [32]byte(raw)
	wrap := func(key []byte) []byte { return modelledBody(to.Prints[1], public, key, session[:]).body() }
	opens(t, wrap(modelledKey(public, to.Box, raw)), k, to, session)
	for _, pieces := range [][][32]byte{
		{to.Box, public, shared}, {shared, public, to.Box}, {public, shared, to.Box}, {to.Box, shared, public}, {shared, to.Box, public},
		{shared}, {public, shared}, {to.Box, shared}, {public, to.Box}, {public, to.Box, shared, {}}, {public, to.Box, {}}, {public, public, shared}, {to.Box, to.Box, shared},
	} {
		var secret []byte
		for _, p := range pieces {
			secret = append(secret, p[:]...)
		}
		refuses(t, wrap(derived(nil, secret, "OpenPGP X25519", 16)), k, to, api.ErrAuth)
	}
	secret := slices.Concat(public[:], to.Box[:], raw)
	opens(t, wrap(derived(make([]byte, 32), secret, "OpenPGP X25519", 16)), k, to, session)
	refuses(t, wrap(derived([]byte{1}, secret, "OpenPGP X25519", 16)), k, to, api.ErrAuth)
	refuses(t, wrap(derived(nil, secret, "OpenPGP X25519", 32)), k, to, api.ErrAuth)
	refuses(t, wrap(derived(nil, secret, "OpenPGP X25519", 32)[16:]), k, to, api.ErrAuth)
	for _, info := range []string{"", "OpenPGP X448", "OpenPGP X25519\x00", "openpgp x25519", "OpenPGP  X25519"} {
		refuses(t, wrap(derived(nil, secret, info, 16)), k, to, api.ErrAuth)
	}
}

// Something wrapped that is not 32 bytes: a body that says so, or that doesn't, is no such body.
func TestP15_1OpenOtherSizes(t *testing.T) {
	_, k, to, session := right()
	for n := 16; n <= 128; n += 8 {
		data := bytes.Repeat(session[:], 4)[:n]
		m, _ := modelledSeal(data, to, [32]byte{0, 3})
		if n == 32 {
			opens(t, m.body(), k, to, session)
			continue
		}
		refuses(t, m.body(), k, to, api.ErrForm)
		m.size = []byte{40}
		refuses(t, m.body(), k, to, api.ErrForm)
		m.wrapped = append(m.wrapped, make([]byte, 100)...)[:40]
		refuses(t, m.body(), k, to, api.ErrAuth)
	}
	// Bodies of another algorithm ahead of a session key say which one, and are none of the chapter's either.
	m, _ := modelledSeal(session[:], to, [32]byte{0, 3})
	m.size, m.wrapped = []byte{41}, append([]byte{9}, m.wrapped...)
	refuses(t, m.body(), k, to, api.ErrForm)
}

// Fingerprints of other versions and lengths, or none, which OpenPGP knows, but which are none of the chapter's.
func TestP15_1OpenOtherHeads(t *testing.T) {
	_, k, to, session := right()
	m, _ := modelledSeal(session[:], to, [32]byte{0, 3})
	for _, head := range [][]byte{{6, 21, 4}, {6, 33, 4}, {6, 33, 5}, {6, 32, 6}, {6, 32}, {3}, {3, 33, 6}, {2, 33, 6}, {33, 6}, {6, 6}, {}} {
		other := m
		other.head = head
		refuses(t, other.body(), k, to, api.ErrForm)
		other.print = to.Prints[1][:20]
		refuses(t, other.body(), k, to, api.ErrForm)
	}
	nobody := m
	nobody.head, nobody.print = []byte{6, 0}, nil
	refuses(t, nobody.body(), k, to, api.ErrForm)
	for algorithm := range 256 {
		other := m
		other.algorithm = []byte{byte(algorithm)}
		if algorithm == 25 {
			opens(t, other.body(), k, to, session)
		} else {
			refuses(t, other.body(), k, to, api.ErrForm)
		}
	}
}

// P15.2: what was sealed for Of a key is opened by it.
func TestP15_2There(t *testing.T) {
	for _, k := range keys(8) {
		for _, time := range []uint32{0, 5, 4294967295} {
			to := cert.Of(k, time)
			for _, session := range arrays(1) {
				for _, drawn := range [][32]byte{{}, full(), {0, 7}, session} {
					b, e := Seal(session, to, drawn)
					if e != api.OK {
						t.Errorf("for %x by %x: %v", k, drawn, e)
					}
					opens(t, b, k, to, session)
				}
			}
		}
	}
}

func TestP15_2ThereDrawn(t *testing.T) {
	t.Parallel()
	d := drawnBy(22)
	for range 500 {
		k, time, session := d.key(), d.Uint32(), d.array()
		b, e := Seal(session, cert.Of(k, time), d.array())
		if e != api.OK {
			t.Errorf("for %x: %v", k, e)
		}
		opens(t, b, k, cert.Of(k, time), session)
	}
}

// Two bodies for one key, and two keys' bodies: each one opens its own.
func TestP15_2EachItsOwn(t *testing.T) {
	d := drawnBy(23)
	all := keys(4)
	for i, k := range all {
		session := d.array()
		b, _ := Seal(session, cert.Of(k, 5), d.array())
		for j, other := range all {
			if i == j {
				opens(t, b, other, cert.Of(other, 5), session)
			} else {
				refuses(t, b, other, cert.Of(other, 5), api.ErrNone)
				refuses(t, b, other, cert.Of(k, 5), api.ErrAuth)
			}
		}
	}
}
