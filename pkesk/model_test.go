package pkesk

import (
	"bytes"
	"crypto/aes"
	"crypto/ecdh"
	"crypto/hkdf"
	"crypto/sha256"
	"encoding/binary"
	"math/rand/v2"
	"slices"
	"testing"

	"postilion/api"
	"postilion/cert"
)

// A drawer draws from a seed what the tests try; the same each time.
type drawer struct {
	*rand.Rand
}

func drawnBy(seed uint64) drawer {
	return drawer{rand.New(rand.NewPCG(seed, 15))}
}

func (d drawer) bytes(n int) []byte {
	b := make([]byte, n)
	for i := range b {
		b[i] = byte(d.Uint32())
	}
	return b
}

func (d drawer) array() [32]byte {
	return [32]byte(d.bytes(32))
}

func (d drawer) key() api.Key {
	return api.Key{Sign: d.array(), Box: d.array()}
}

// full answers 32 bytes 255.
func full() [32]byte {
	return [32]byte(bytes.Repeat([]byte{255}, 32))
}

// arrays answers 32 noughts, 32 bytes 255, some with one byte that is none, and n drawn ones.
func arrays(n int) [][32]byte {
	all := [][32]byte{{}, full(), {1}, {31: 1}, {31: 128}, {9}}
	d := drawnBy(1)
	for range n {
		all = append(all, d.array())
	}
	return all
}

// keys answers the key of noughts, the one of bytes 255, one of which both halves are the same, and n drawn ones.
func keys(n int) []api.Key {
	all := []api.Key{{}, {Sign: full(), Box: full()}, {Sign: [32]byte{9}, Box: [32]byte{9}}}
	d := drawnBy(2)
	for range n {
		all = append(all, d.key())
	}
	return all
}

// smalls answers the public keys of small order: RFC 7748's, those that are p or more, and each with the highest bit set.
func smalls() [][32]byte {
	less := func(last byte) [32]byte {
		u := full()
		u[0], u[31] = last, 127
		return u
	}
	eight := [32]byte{
		0xe0, 0xeb, 0x7a, 0x7c, 0x3b, 0x41, 0xb8, 0xae, 0x16, 0x56, 0xe3, 0xfa, 0xf1, 0x9f, 0xc4, 0x6a,
		0xda, 0x09, 0x8d, 0xeb, 0x9c, 0x32, 0xb1, 0xfd, 0x86, 0x62, 0x05, 0x16, 0x5f, 0x49, 0xb8, 0x00,
	}
	other := [32]byte{
		0x5f, 0x9c, 0x95, 0xbc, 0xa3, 0x50, 0x8c, 0x24, 0xb1, 0xd0, 0xb1, 0x55, 0x9c, 0x83, 0xef, 0x5b,
		0x04, 0x44, 0x5c, 0xc4, 0x58, 0x1c, 0x8e, 0x86, 0xd8, 0x22, 0x4e, 0xdd, 0xd0, 0x9f, 0x11, 0x57,
	}
	all := [][32]byte{{}, {1}, eight, other, less(0xec), less(0xed), less(0xee)}
	for _, u := range slices.Clone(all) {
		u[31] |= 128
		all = append(all, u)
	}
	return all
}

// modelledShared is the shared secret by the library, and whether there is one.
func modelledShared(secret, public [32]byte) ([]byte, bool) {
	mine, err := ecdh.X25519().NewPrivateKey(secret[:])
	if err != nil {
		panic(err)
	}
	theirs, err := ecdh.X25519().NewPublicKey(public[:])
	if err != nil {
		panic(err)
	}
	shared, err := mine.ECDH(theirs)
	return shared, err == nil
}

// modelledPublic is a secret's public key, by the library.
func modelledPublic(secret [32]byte) [32]byte {
	k, err := ecdh.X25519().NewPrivateKey(secret[:])
	if err != nil {
		panic(err)
	}
	return [32]byte(k.PublicKey().Bytes())
}

// modelledKey is what a session key is wrapped under, by the library.
func modelledKey(public, receiver [32]byte, shared []byte) []byte {
	key, err := hkdf.Key(sha256.New, slices.Concat(public[:], receiver[:], shared), nil, "OpenPGP X25519", 16)
	if err != nil {
		panic(err)
	}
	return key
}

// modelledWrap wraps by RFC 3394, 2.2.1, on the library's AES.
func modelledWrap(key, data []byte) []byte {
	c, err := aes.NewCipher(key)
	if err != nil {
		panic(err)
	}
	n := len(data) / 8
	out := slices.Concat(bytes.Repeat([]byte{0xa6}, 8), data)
	for j := range 6 {
		for i := 1; i <= n; i++ {
			b := slices.Concat(out[:8], out[8*i:8*i+8])
			c.Encrypt(b, b)
			binary.BigEndian.PutUint64(out, binary.BigEndian.Uint64(b)^uint64(n*j+i))
			copy(out[8*i:], b[8:])
		}
	}
	return out
}

// modelledUnwrap unwraps by RFC 3394, 2.2.2, on the library's AES, and tells whether something is wrapped so.
func modelledUnwrap(key, data []byte) ([]byte, bool) {
	c, err := aes.NewCipher(key)
	if err != nil {
		panic(err)
	}
	n := len(data)/8 - 1
	out := slices.Clone(data)
	for j := 5; j >= 0; j-- {
		for i := n; i >= 1; i-- {
			b := binary.BigEndian.AppendUint64(nil, binary.BigEndian.Uint64(out)^uint64(n*j+i))
			b = append(b, out[8*i:8*i+8]...)
			c.Decrypt(b, b)
			copy(out, b[:8])
			copy(out[8*i:], b[8:])
		}
	}
	return out[8:], bytes.Equal(out[:8], bytes.Repeat([]byte{0xa6}, 8))
}

// A modelled is a body in pieces, each of which may be made another one.
type modelled struct {
	head, print, algorithm, public, size, wrapped []byte
}

func (m modelled) body() []byte {
	return slices.Concat(m.head, m.print, m.algorithm, m.public, m.size, m.wrapped)
}

// modelledBody is the body with data wrapped under that key.
func modelledBody(print, public [32]byte, key, data []byte) modelled {
	wrapped := modelledWrap(key, data)
	return modelled{
		head: []byte{0x06, 0x21, 0x06}, print: print[:], algorithm: []byte{0x19}, public: public[:],
		size: []byte{byte(len(wrapped))}, wrapped: wrapped,
	}
}

// modelledSeal answers what Seal must, of data that need not be a session key.
func modelledSeal(data []byte, to cert.Cert, drawn [32]byte) (modelled, bool) {
	shared, ok := modelledShared(drawn, to.Box)
	if !ok {
		return modelled{}, false
	}
	public := modelledPublic(drawn)
	return modelledBody(to.Prints[1], public, modelledKey(public, to.Box, shared), data), true
}

// modelledOpen answers what Open must, question by question.
func modelledOpen(body []byte, k api.Key, to cert.Cert) ([32]byte, api.Errno) {
	if len(body) != 109 || string(body[:3]) != "\x06\x21\x06" || body[35] != 0x19 || body[68] != 0x28 {
		return [32]byte{}, api.ErrForm
	}
	if !bytes.Equal(body[3:35], to.Prints[1][:]) {
		return [32]byte{}, api.ErrNone
	}
	public := [32]byte(body[36:68])
	shared, ok := modelledShared(k.Box, public)
	if !ok {
		return [32]byte{}, api.ErrForm
	}
	session, ok := modelledUnwrap(modelledKey(public, modelledPublic(k.Box), shared), body[69:])
	if !ok {
		return [32]byte{}, api.ErrAuth
	}
	return [32]byte(session), api.OK
}

// seals holds that Seal answers what the model does, byte by byte, and answers it.
func seals(t *testing.T, session [32]byte, to cert.Cert, drawn [32]byte) []byte {
	t.Helper()
	want, ok := modelledSeal(session[:], to, drawn)
	if !ok {
		t.Fatalf("nothing can be sealed for %x", to.Box)
	}
	b, e := Seal(session, to, drawn)
	if e != api.OK || len(b) != 109 || !bytes.Equal(b, want.body()) {
		t.Errorf("%x for %x by %x: %x, %v, not %x", session, to.Box, drawn, b, e, want.body())
	}
	return b
}

// opens holds that Open answers this session key.
func opens(t *testing.T, body []byte, k api.Key, to cert.Cert, want [32]byte) {
	t.Helper()
	if s, e := Open(body, k, to); e != api.OK || s != want {
		t.Errorf("%d bytes %x: %x, %v, not %x", len(body), body[:min(len(body), 109)], s, e, want)
	}
}

// refuses holds that Open answers this error, and nothing beside it.
func refuses(t *testing.T, body []byte, k api.Key, to cert.Cert, want api.Errno) {
	t.Helper()
	if s, e := Open(body, k, to); e != want || s != [32]byte{} {
		t.Errorf("%d bytes %x: %x, %v, not %v", len(body), body[:min(len(body), 109)], s, e, want)
	}
}

// asModelled holds that Open answers what the model does, and answers its error.
func asModelled(t *testing.T, body []byte, k api.Key, to cert.Cert) api.Errno {
	t.Helper()
	want, e := modelledOpen(body, k, to)
	if e == api.OK {
		opens(t, body, k, to, want)
	} else {
		refuses(t, body, k, to, e)
	}
	return e
}

// The model unwraps what it wraps, and nothing else: what is held against it isn't held against too little.
func TestModelUnwraps(t *testing.T) {
	d := drawnBy(3)
	for n := 16; n <= 128; n += 8 {
		key, data := d.bytes(16), d.bytes(n)
		wrapped := modelledWrap(key, data)
		if back, ok := modelledUnwrap(key, wrapped); !ok || !bytes.Equal(back, data) {
			t.Errorf("%x, not %x", back, data)
		}
		wrapped[d.IntN(len(wrapped))]++
		if _, ok := modelledUnwrap(key, wrapped); ok {
			t.Errorf("%x is unwrapped", wrapped)
		}
	}
}

// spoil changes all of the bytes, their spare room too.
func spoil(b []byte) {
	b = b[:cap(b)]
	for i := range b {
		b[i] ^= 255
	}
}
