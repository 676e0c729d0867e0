package pkesk

import (
	"bytes"
	"encoding/hex"
	"testing"

	"postilion/api"
	"postilion/cert"
)

// fails holds that Seal answers ErrForm, and nothing beside it.
func fails(t *testing.T, session [32]byte, to cert.Cert, drawn [32]byte) {
	t.Helper()
	if b, e := Seal(session, to, drawn); e != api.ErrForm || len(b) != 0 {
		t.Errorf("for %x by %x: %x, %v", to.Box, drawn, b, e)
	}
}

// unhex answers 32 bytes.
func unhex(t *testing.T, s string) [32]byte {
	t.Helper()
	b, err := hex.DecodeString(s)
	if err != nil || len(b) != 32 {
		t.Fatalf("%s: %v", s, err)
	}
	return [32]byte(b)
}

// The two of RFC 7748, 6.1: one's secret is drawn, for the other one's key. The wrapped bytes were reckoned by another program.
const (
	aliceSecret = "77076d0a7318a57d3c16c17251b26645df4c2f87ebc0992ab177fba51db92c2a"
	alicePublic = "8520f0098930a754748b7ddcb43ef75a0dbf3a0d26381af4eba4a98eaa9b4e6a"
	bobSecret   = "5dab087e624a8a4b79e17f8b83800ee66f3bb1292618b6fd1c2f8b27ff88e0eb"
	bobPublic   = "de9edb7d7b7dc1b4d35b61c2ece435373f8343c85b78674dadfc7e146f882b4f"
	counted     = "000102030405060708090a0b0c0d0e0f101112131415161718191a1b1c1d1e1f"
	wrappedSo   = "1700d30c2c70a38c460eeff84c4c820a22256b40d6868f1626a9c89f1d83335db7e5e7425cf8be6b"
)

// A body's bytes, written out: 109, as the chapter's example says.
func TestP15_1Known(t *testing.T) {
	to := cert.Cert{Box: unhex(t, bobPublic), Prints: [2][32]byte{1: [32]byte([]byte("a fingerprint of thirty-two byte"))}}
	b := seals(t, unhex(t, counted), to, unhex(t, aliceSecret))
	want := "062106" + hex.EncodeToString([]byte("a fingerprint of thirty-two byte")) + "19" + alicePublic + "28" + wrappedSo
	if len(b) != 109 || hex.EncodeToString(b) != want {
		t.Errorf("%d bytes %x, not %s", len(b), b, want)
	}
	opens(t, b, api.Key{Box: unhex(t, bobSecret)}, to, unhex(t, counted))
}

func TestP15_1SealSessions(t *testing.T) {
	to, drawn := cert.Of(drawnBy(10).key(), 5), drawnBy(11).array()
	seen, tried := map[string]int{}, 0
	sessions := append([][32]byte{{}, full()}, arrays(40)[6:]...)
	for bit := range 256 {
		var session [32]byte
		session[bit/8] = 1 << (bit % 8)
		sessions = append(sessions, session)
	}
	for _, session := range sessions {
		seen[string(seals(t, session, to, drawn)[69:])]++
		tried++
	}
	if len(seen) != tried {
		t.Errorf("%d wrapped keys of %d", len(seen), tried)
	}
}

func TestP15_1SealDrawnSecrets(t *testing.T) {
	to := cert.Of(drawnBy(12).key(), 5)
	publics, wrapped, tried := map[string]int{}, map[string]int{}, 0
	for _, drawn := range append([][32]byte{{8}, {31: 16}}, arrays(40)[6:]...) {
		b := seals(t, [32]byte{1}, to, drawn)
		publics[string(b[36:68])]++
		wrapped[string(b[69:])]++
		tried++
	}
	if len(publics) != tried || len(wrapped) != tried {
		t.Errorf("%d public keys and %d wrapped ones of %d", len(publics), len(wrapped), tried)
	}
	// Bits of a secret that X25519 clears or sets make no other body.
	none := seals(t, [32]byte{1}, to, [32]byte{})
	for _, drawn := range [][32]byte{{1}, {7}, {31: 64}, {31: 128}, {7, 31: 192}} {
		if b := seals(t, [32]byte{1}, to, drawn); !bytes.Equal(b, none) {
			t.Errorf("by %x: %x, not %x", drawn, b, none)
		}
	}
}

func TestP15_1SealCertificates(t *testing.T) {
	seen, tried := map[string]int{}, 0
	for _, k := range keys(20) {
		for _, time := range []uint32{0, 1, 1 << 31, 4294967295} {
			to := cert.Of(k, time)
			b := seals(t, [32]byte{2}, to, [32]byte{0, 7})
			if [32]byte(b[3:35]) != to.Prints[1] {
				t.Errorf("for %x, not %x", b[3:35], to.Prints[1])
			}
			seen[string(b[3:35])]++
			tried++
		}
	}
	if len(seen) != tried {
		t.Errorf("%d fingerprints of %d", len(seen), tried)
	}
}

// The certificate need not be one of a key: its Box is any 32 bytes, and goes into the key as it stands, its fingerprint too.
func TestP15_1SealAnyBox(t *testing.T) {
	d := drawnBy(13)
	for _, box := range append([][32]byte{{2}, {9}, {31: 64}, full()}, arrays(40)[6:]...) {
		for _, second := range [][32]byte{{}, full(), d.array(), box} {
			seals(t, d.array(), cert.Cert{Box: box, Prints: [2][32]byte{1: second}}, d.array())
		}
	}
	// The highest bit changes no shared secret, but the key.
	to := cert.Of(d.key(), 5)
	plain := seals(t, [32]byte{3}, to, [32]byte{4})
	to.Box[31] |= 128
	if b := seals(t, [32]byte{3}, to, [32]byte{4}); !bytes.Equal(b[:69], plain[:69]) || bytes.Equal(b[69:], plain[69:]) {
		t.Errorf("%x, and without the highest bit %x", b, plain)
	}
}

func TestP15_1SealDrawn(t *testing.T) {
	d := drawnBy(14)
	for range 300 {
		seals(t, d.array(), cert.Of(d.key(), d.Uint32()), d.array())
	}
}

// Nothing can be sealed for a key of small order, whatever the session key, the rest of the certificate and the drawn secret are.
func TestP15_1SealSmallOrder(t *testing.T) {
	d := drawnBy(15)
	for _, box := range smalls() {
		for _, drawn := range arrays(4) {
			to := cert.Of(d.key(), 5)
			to.Box = box
			fails(t, d.array(), to, drawn)
			fails(t, [32]byte{}, cert.Cert{Box: box}, drawn)
		}
		// Those beside it are others.
		box[1] ^= 1
		seals(t, d.array(), cert.Cert{Box: box}, d.array())
	}
}

// Of the certificate, Seal looks at the Box and at the second fingerprint alone.
func TestP15_1SealLooksAtNoMore(t *testing.T) {
	d := drawnBy(16)
	to := cert.Of(d.key(), 5)
	session, drawn := d.array(), d.array()
	want := seals(t, session, to, drawn)
	for _, other := range append(arrays(4), to.Box, to.Prints[1]) {
		for _, change := range []func(*cert.Cert){
			func(c *cert.Cert) { c.Time = uint32(other[0]) << 24 },
			func(c *cert.Cert) { c.Sign = other },
			func(c *cert.Cert) { c.Prints[0] = other },
			func(c *cert.Cert) { *c = cert.Cert{Box: c.Box, Prints: [2][32]byte{1: c.Prints[1]}} },
		} {
			c := to
			change(&c)
			if b := seals(t, session, c, drawn); !bytes.Equal(b, want) {
				t.Errorf("for %x: %x, not %x", c, b, want)
			}
			c.Box = [32]byte{}
			fails(t, session, c, drawn)
		}
	}
	// Of another second fingerprint no more than that is another one.
	c := to
	c.Prints[1] = d.array()
	if b := seals(t, session, c, drawn); !bytes.Equal(b[:3], want[:3]) || bytes.Equal(b[3:35], want[3:35]) || !bytes.Equal(b[35:], want[35:]) {
		t.Errorf("%x, not %x", b, want)
	}
	// Of another Box, no more than the wrapped key.
	c = to
	c.Box = cert.Of(d.key(), 5).Box
	if b := seals(t, session, c, drawn); !bytes.Equal(b[:69], want[:69]) || bytes.Equal(b[69:], want[69:]) {
		t.Errorf("%x, not %x", b, want)
	}
}

// A certificate that was parsed is sealed for as the one that was made of the key.
func TestP15_1SealForParsed(t *testing.T) {
	k := drawnBy(17).key()
	to, e := cert.Parse(cert.Make(k, 77, [2][32]byte{{1}, {2}}))
	if e != api.OK {
		t.Fatal(e)
	}
	opens(t, seals(t, [32]byte{5}, to, [32]byte{0, 6}), k, cert.Of(k, 77), [32]byte{5})
}
