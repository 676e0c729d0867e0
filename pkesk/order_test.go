package pkesk

import (
	"slices"
	"testing"

	"postilion/api"
	"postilion/cert"
)

// A flaw is one that a question of Open may have.
type flaw struct {
	name  string
	want  api.Errno
	apply func(body *[]byte, k *api.Key, to *cert.Cert)
}

// flaws answers some, in the order in which they are asked for.
func flaws() []flaw {
	at := func(i int) func(*[]byte, *api.Key, *cert.Cert) {
		return func(body *[]byte, _ *api.Key, _ *cert.Cert) { (*body)[i] ^= 4 }
	}
	return []flaw{
		{"long", api.ErrForm, func(body *[]byte, _ *api.Key, _ *cert.Cert) { *body = append(*body, 0) }},
		{"version", api.ErrForm, at(0)},
		{"the fingerprint's length", api.ErrForm, at(1)},
		{"the fingerprint's version", api.ErrForm, at(2)},
		{"algorithm", api.ErrForm, at(35)},
		{"the wrapped key's length", api.ErrForm, at(68)},
		{"fingerprint", api.ErrNone, at(3)},
		{"the certificate's fingerprint", api.ErrNone, func(_ *[]byte, _ *api.Key, to *cert.Cert) { to.Prints[1][31]++ }},
		{"small order", api.ErrForm, func(body *[]byte, _ *api.Key, _ *cert.Cert) { clear((*body)[36:68]) }},
		{"key", api.ErrAuth, func(_ *[]byte, k *api.Key, _ *cert.Cert) { k.Box[5]++ }},
		{"wrapped key", api.ErrAuth, at(108)},
	}
}

// Each two flaws at once: the one that is asked for first is told.
func TestP15_1OpenWhichComesFirst(t *testing.T) {
	all := flaws()
	for i, first := range all {
		for _, second := range all[i:] {
			body, k, to, _ := right()
			second.apply(&body, &k, &to)
			if first.name != second.name {
				first.apply(&body, &k, &to)
			}
			if e := asModelled(t, body, k, to); e != first.want {
				t.Errorf("%s and %s: %v, not %v", first.name, second.name, e, first.want)
			}
		}
	}
}

// A small order is told by ErrForm, but behind the fingerprint: of a body for somebody else it isn't asked.
func TestP15_1OpenSmallOrderBehindFingerprint(t *testing.T) {
	body, k, to, _ := right()
	for _, small := range smalls() {
		b := slices.Clone(body)
		copy(b[36:], small[:])
		refuses(t, b, k, to, api.ErrForm)
		b[34] ^= 128
		refuses(t, b, k, to, api.ErrNone)
		refuses(t, b, k, cert.Cert{Prints: [2][32]byte{to.Prints[1]}}, api.ErrNone)
		b[35]++
		refuses(t, b, k, to, api.ErrForm)
	}
}

// Drawn bodies, in which some bytes are others, for some who have them and some who don't, are what the model says.
func TestP15_1OpenDrawn(t *testing.T) {
	t.Parallel()
	d := drawnBy(30)
	told := map[api.Errno]int{}
	for range 3000 {
		k := d.key()
		to, session := cert.Of(k, d.Uint32()), d.array()
		m, _ := modelledSeal(session[:], to, d.array())
		switch d.IntN(8) {
		case 0:
			k = d.key()
		case 1:
			to = cert.Of(k, d.Uint32())
		case 2:
			to.Prints[0], to.Sign, to.Box = d.array(), d.array(), d.array()
		case 3:
			small := smalls()[d.IntN(14)]
			m.public = small[:]
		case 4:
			m.wrapped = d.bytes(d.IntN(2)*40 + d.IntN(2))
		}
		b := m.body()
		for range d.IntN(6) / 3 {
			b[d.IntN(len(b))] ^= byte(1 << d.IntN(8))
		}
		if d.IntN(10) == 0 {
			b = b[:d.IntN(len(b))]
		}
		told[asModelled(t, b, k, to)]++
	}
	for _, e := range []api.Errno{api.OK, api.ErrForm, api.ErrNone, api.ErrAuth} {
		if told[e] < 200 {
			t.Errorf("%v: told %d times", e, told[e])
		}
	}
	if len(told) != 4 {
		t.Errorf("%v", told)
	}
}

// Whatever comes in is what the model says.
func FuzzP15_1(f *testing.F) {
	body, k, to, _ := right()
	f.Add(body, k.Box[:], to.Prints[1][:])
	f.Add(body[:108], k.Box[:], []byte{})
	f.Fuzz(func(t *testing.T, b, box, print []byte) {
		var k api.Key
		var to cert.Cert
		copy(k.Box[:], box)
		copy(to.Prints[1][:], print)
		asModelled(t, b, k, to)
	})
}
