package cert

import (
	"bytes"
	"crypto/ecdh"
	"crypto/ed25519"
	"crypto/sha256"
	"crypto/sha512"
	"encoding/binary"
	"math/rand/v2"
	"slices"
	"testing"

	"postilion/api"
)

// A drawer draws from a seed what the tests try; the same each time.
type drawer struct {
	*rand.Rand
}

func drawn(seed uint64) drawer {
	return drawer{rand.New(rand.NewPCG(seed, 14))}
}

func (d drawer) bytes(n int) []byte {
	b := make([]byte, n)
	for i := range b {
		b[i] = byte(d.Uint32())
	}
	return b
}

func (d drawer) array() [32]byte {
	return [32]byte(d.bytes(32))
}

func (d drawer) key() api.Key {
	return api.Key{Sign: d.array(), Box: d.array()}
}

// full answers 32 bytes 255.
func full() [32]byte {
	return [32]byte(bytes.Repeat([]byte{255}, 32))
}

// keys answers the key of noughts, the one of bytes 255, one of which both halves are the same, and n drawn ones.
func keys(n int) []api.Key {
	all := []api.Key{{}, {Sign: full(), Box: full()}, {Sign: [32]byte{9}, Box: [32]byte{9}}}
	d := drawn(1)
	for range n {
		all = append(all, d.key())
	}
	return all
}

// times answers the least and the greatest time, and some of which each of the four bytes is another one.
func times() []uint32 {
	return []uint32{0, 1, 7, 255, 256, 65535, 65536, 1<<24 - 1, 1 << 24, 0x01020304, 1<<31 - 1, 1 << 31, 4294967294, 4294967295}
}

// salts answers some salts.
func salts() [][32]byte {
	return [][32]byte{{}, {1}, {31: 1}, full(), drawn(2).array()}
}

// filled answers n bytes that differ from place to place.
func filled(n int) []byte {
	b := make([]byte, n)
	for i := range b {
		b[i] = byte(i*11 + i/256 + n)
	}
	return b
}

// modelledSign is the public key of what k signs with, by the library.
func modelledSign(k api.Key) [32]byte {
	return [32]byte(ed25519.NewKeyFromSeed(k.Sign[:]).Public().(ed25519.PublicKey))
}

// modelledBox is the public key of k's other half, by the library.
func modelledBox(k api.Key) [32]byte {
	secret, err := ecdh.X25519().NewPrivateKey(k.Box[:])
	if err != nil {
		panic(err)
	}
	return [32]byte(secret.PublicKey().Bytes())
}

func modelledKey(time uint32, algorithm byte, public [32]byte) []byte {
	var b bytes.Buffer
	b.WriteByte(0x06)
	binary.Write(&b, binary.BigEndian, time)
	b.WriteByte(algorithm)
	b.WriteString("\x00\x00\x00\x20")
	b.Write(public[:])
	return b.Bytes()
}

func modelledForm(body []byte) []byte {
	var b bytes.Buffer
	b.WriteByte(0x9b)
	binary.Write(&b, binary.BigEndian, uint32(len(body)))
	b.Write(body)
	return b.Bytes()
}

func modelledPrint(body []byte) [32]byte {
	return sha256.Sum256(modelledForm(body))
}

// A modelled is a signature packet's body in pieces, each of which may be made another one.
type modelled struct {
	head, unsigned, start, saltSize, salt, sig []byte
}

func (m modelled) body() []byte {
	return slices.Concat(m.head, m.unsigned, m.start, m.saltSize, m.salt, m.sig)
}

// hash is the hash of a head, of a salt and of what is signed.
func (m modelled) hash(what []byte) []byte {
	h := sha512.New()
	h.Write(m.salt)
	h.Write(what)
	h.Write(m.head)
	h.Write([]byte{0x06, 0xff, 0, 0, 0, byte(len(m.head))})
	return h.Sum(nil)
}

// signed is the packet with the hash's first bytes and the signature that it needs.
func (m modelled) signed(k api.Key, what []byte) modelled {
	return m.under(k, m.hash(what))
}

// under is the packet with this hash's first bytes and its signature.
func (m modelled) under(k api.Key, hash []byte) modelled {
	m.start = hash[:2]
	m.sig = ed25519.Sign(ed25519.NewKeyFromSeed(k.Sign[:]), hash)
	return m
}

// modelledSignature is a signature packet by the library.
func modelledSignature(k api.Key, kind byte, time uint32, salt, signer [32]byte, what []byte) modelled {
	var b bytes.Buffer
	b.Write([]byte{0x06, kind, 0x1b, 0x0a, 0, 0, 0, 0x29, 0x05, 0x02})
	binary.Write(&b, binary.BigEndian, time)
	b.Write([]byte{0x22, 0x21, 0x06})
	b.Write(signer[:])
	m := modelled{head: b.Bytes(), unsigned: make([]byte, 4), saltSize: []byte{0x20}, salt: salt[:]}
	return m.signed(k, what)
}

// A certificate is the four bodies of one.
type certificate [4][]byte

// modelledCert is a certificate of k by the library.
func modelledCert(k api.Key, time uint32, salts [2][32]byte) certificate {
	first, second := modelledKey(time, 27, modelledSign(k)), modelledKey(time, 25, modelledBox(k))
	signer := modelledPrint(first)
	what := slices.Concat(modelledForm(first), modelledForm(second))
	return certificate{
		first, modelledSignature(k, 0x1f, time, salts[0], signer, modelledForm(first)).body(),
		second, modelledSignature(k, 0x18, time, salts[1], signer, what).body(),
	}
}

// written is a packet: its bodies have fewer than 192 bytes, which is one byte's length.
func written(tag byte, body []byte) []byte {
	if len(body) > 191 {
		panic("the model writes short packets only")
	}
	return slices.Concat([]byte{0xc0 | tag, byte(len(body))}, body)
}

func (c certificate) bytes() []byte {
	return slices.Concat(written(6, c[0]), written(2, c[1]), written(14, c[2]), written(2, c[3]))
}

// modelledOf is what a certificate of k says, by the library.
func modelledOf(k api.Key, time uint32) Cert {
	sign, box := modelledSign(k), modelledBox(k)
	return Cert{
		Time: time, Sign: sign, Box: box,
		Prints: [2][32]byte{modelledPrint(modelledKey(time, 27, sign)), modelledPrint(modelledKey(time, 25, box))},
	}
}

// parses holds that the bytes say want.
func parses(t *testing.T, b []byte, want Cert) {
	t.Helper()
	if c, e := Parse(b); e != api.OK || c != want {
		t.Errorf("%d bytes %x: %x, %v, not %x", len(b), b[:min(len(b), 50)], c, e, want)
	}
}

// refuses holds that this error is told, and nothing beside it.
func refuses(t *testing.T, b []byte, want api.Errno) {
	t.Helper()
	if c, e := Parse(b); e != want || c != (Cert{}) {
		t.Errorf("%d bytes %x: %x, %v, not %v", len(b), b[:min(len(b), 50)], c, e, want)
	}
}

// A question is what Check is asked.
type question struct {
	public, signer [32]byte
	body           []byte
	kind           byte
	what           []byte
}

// holds holds that Check answers this time.
func (q question) holds(t *testing.T, time uint32) {
	t.Helper()
	if n, e := Check(q.public, q.signer, q.body, q.kind, q.what); e != api.OK || n != time {
		t.Errorf("%d bytes %x, type %d, of %d bytes: %d, %v, not %d", len(q.body), q.body[:min(len(q.body), 60)], q.kind, len(q.what), n, e, time)
	}
}

// fails holds that Check answers this error, and no time.
func (q question) fails(t *testing.T, want api.Errno) {
	t.Helper()
	if n, e := Check(q.public, q.signer, q.body, q.kind, q.what); e != want || n != 0 {
		t.Errorf("%d bytes %x, type %d, of %d bytes: %d, %v, not %v", len(q.body), q.body[:min(len(q.body), 60)], q.kind, len(q.what), n, e, want)
	}
}

// spoil changes all of the bytes, their spare room too.
func spoil(b []byte) {
	b = b[:cap(b)]
	for i := range b {
		b[i] ^= 255
	}
}
