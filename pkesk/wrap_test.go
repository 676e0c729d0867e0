package pkesk

import (
	"bytes"
	"crypto/hkdf"
	"crypto/sha256"
	"encoding/hex"
	"testing"

	"postilion/api"
	"postilion/cert"
	"postilion/packet"
	"postilion/xdh"
)

// derived is the HKDF by the library.
func derived(salt, secret []byte, info string, n int) []byte {
	key, err := hkdf.Key(sha256.New, secret, salt, info, n)
	if err != nil {
		panic(err)
	}
	return key
}

// RFC 9580, A.8.1: a packet of version 6 with a session key of 16 bytes, for the second key of the certificate in A.3.
const rfcPacket = "" +
	"c15d06210612c83f1e706f6308fe151a417743a1f033790e93e9978488d1db37" +
	"8da99308851987cf18d5f1b53f817cce5a004cf393cc8958bddc065f25f84af5" +
	"09b17dd3676418dea355437956617901e06957fbca8a6a47a5b5153e8d3ab7"

// The RFC's secret, fingerprint, key that the session key is wrapped under, and session key.
const (
	rfcSecret  = "4d600a4f794d44775c57a26e0feefed558e9afffd6ad0d582d57fb2ba2dcedb8"
	rfcPrint   = "12c83f1e706f6308fe151a417743a1f033790e93e9978488d1db378da9930885"
	rfcKey     = "f66dadcff64592239b254539b64ff607"
	rfcSession = "dd708f6fa1ed65114d68d2343e7c2f1d"
)

func rfcBody(t *testing.T) []byte {
	t.Helper()
	b, err := hex.DecodeString(rfcPacket)
	list, e := packet.Parse(b)
	if err != nil || e != api.OK || len(list) != 1 || list[0].Tag != 1 {
		t.Fatal(err, e, list)
	}
	return list[0].Body
}

// The RFC's key is the one that is derived here of its secret and of the drawn public key.
func TestP15_1RFCKey(t *testing.T) {
	body := rfcBody(t)
	secret, public := unhex(t, rfcSecret), [32]byte(body[36:])
	if string(body[:3]) != "\x06\x21\x06" || hex.EncodeToString(body[3:35]) != rfcPrint || body[35] != 25 || body[68] != 24 || len(body) != 93 {
		t.Fatalf("%x", body)
	}
	shared, e := xdh.Shared(secret, public)
	key := wrapKey(public, xdh.Public(secret), shared)
	if e != api.OK || hex.EncodeToString(key[:]) != rfcKey {
		t.Errorf("%x, %v, not %s", key, e, rfcKey)
	}
	if session, ok := modelledUnwrap(key[:], body[69:]); !ok || hex.EncodeToString(session) != rfcSession {
		t.Errorf("%x, %v, not %s", session, ok, rfcSession)
	}
}

// The RFC's session key hasn't 32 bytes: its body is none of the chapter's; with the same key, a body of 32 bytes is.
func TestP15_1RFCBody(t *testing.T) {
	body := rfcBody(t)
	k, to := api.Key{Box: unhex(t, rfcSecret)}, cert.Cert{Prints: [2][32]byte{1: unhex(t, rfcPrint)}}
	refuses(t, body, k, to, api.ErrForm)
	key, _ := hex.DecodeString(rfcKey)
	session := unhex(t, rfcSession+rfcSession)
	m := modelledBody(to.Prints[1], [32]byte(body[36:]), key, session[:])
	opens(t, m.body(), k, to, session)
}

// A body is of 40 wrapped bytes, so that Open never unwraps another number of them; unwrap itself refuses all that aren't a session key.
func TestP15_1UnwrapSizes(t *testing.T) {
	d := drawnBy(50)
	key := [16]byte(d.bytes(16))
	for n := range 200 {
		if s, e := unwrap(key, make([]byte, n)); e != api.ErrAuth || s != [32]byte{} {
			t.Errorf("%d noughts: %x, %v", n, s, e)
		}
	}
	for n := 16; n <= 128; n += 8 {
		data := d.bytes(n)
		s, e := unwrap(key, modelledWrap(key[:], data))
		switch {
		case n == 32 && (e != api.OK || s != [32]byte(data)):
			t.Errorf("%x, %v, not %x", s, e, data)
		case n != 32 && (e != api.ErrAuth || s != [32]byte{}):
			t.Errorf("%d bytes: %x, %v", n, s, e)
		}
	}
}

// Wrapped is what the model wraps.
func TestP15_1Wrap(t *testing.T) {
	d := drawnBy(51)
	for _, session := range arrays(100) {
		key := [16]byte(d.bytes(16))
		b := wrap(key, session)
		if want := modelledWrap(key[:], session[:]); !bytes.Equal(b[:], want) {
			t.Errorf("%x, not %x", b, want)
		}
		if s, e := unwrap(key, b[:]); e != api.OK || s != session {
			t.Errorf("%x, %v, not %x", s, e, session)
		}
	}
}
