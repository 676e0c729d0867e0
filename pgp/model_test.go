package pgp

import (
	"bytes"
	"crypto/ecdh"
	"crypto/ed25519"
	"crypto/sha256"
	"crypto/sha512"
	"encoding/binary"
	"math/rand/v2"
	"slices"
	"testing"

	"postilion/api"
	"postilion/cert"
	"postilion/ocb"
	"postilion/packet"
	"postilion/pkesk"
	"postilion/seipd"
	"postilion/sha2"
)

// A drawer draws from a seed what the tests try; the same each time.
type drawer struct {
	*rand.Rand
}

func drawnBy(seed uint64) drawer {
	return drawer{rand.New(rand.NewPCG(seed, 17))}
}

func (d drawer) bytes(n int) []byte {
	b := make([]byte, n)
	for i := range b {
		b[i] = byte(d.Uint32())
	}
	return b
}

func (d drawer) array() [32]byte {
	return [32]byte(d.bytes(32))
}

func (d drawer) key() api.Key {
	return api.Key{Sign: d.array(), Box: d.array()}
}

func (d drawer) five() Drawn {
	return Drawn{d.array(), d.array(), d.array(), d.array(), d.array()}
}

// letter draws what Seal is asked, with a body of n bytes, and who opens it.
func (d drawer) letter(n int) (letter, opener) {
	from, k := d.key(), d.key()
	fromTime, kTime := d.Uint32(), d.Uint32()
	l := letter{from: from, fromTime: fromTime, to: cert.Of(k, kTime), time: d.Uint32(), body: d.bytes(n), drawn: d.five()}
	return l, opener{k: k, kTime: kTime, from: cert.Of(from, fromTime)}
}

// full answers 32 bytes 255.
func full() [32]byte {
	return [32]byte(bytes.Repeat([]byte{255}, 32))
}

// sample answers n bytes, the same each time, and the beginning of those for a greater n.
func sample(n int) []byte {
	return drawnBy(2).bytes(n)
}

// right answers a letter with a body of n bytes, and who opens it.
func right(n int) (letter, opener) {
	return drawnBy(3).letter(n)
}

// A letter is what Seal is asked.
type letter struct {
	from     api.Key
	fromTime uint32
	to       cert.Cert
	time     uint32
	body     []byte
	drawn    Drawn
}

// seal is Seal of it.
func (l letter) seal() ([]byte, api.Errno) {
	return Seal(l.from, l.fromTime, l.to, l.time, l.body, l.drawn)
}

// seals holds that Seal answers what the model does, byte by byte, and answers it.
func (l letter) seals(t *testing.T) []byte {
	t.Helper()
	want := l.modelled().bytes()
	b, e := l.seal()
	if e != api.OK || !bytes.Equal(b, want) {
		t.Errorf("of %d bytes: %d bytes %x, %v, not %d bytes %x", len(l.body), len(b), b[:min(len(b), 500)], e, len(want), want[:min(len(want), 500)])
	}
	return b
}

// fails holds that Seal answers this error, and nothing beside it.
func (l letter) fails(t *testing.T, want api.Errno) {
	t.Helper()
	if b, e := l.seal(); e != want || len(b) != 0 {
		t.Errorf("of %d bytes for %x: %d bytes, %v, not %v", len(l.body), l.to.Box, len(b), e, want)
	}
}

// An opener is who opens messages: with which key, of a certificate of which time, and whom they must be by.
type opener struct {
	k     api.Key
	kTime uint32
	from  cert.Cert
}

// opens holds that Open answers this body and this time.
func (o opener) opens(t *testing.T, b, body []byte, time uint32) {
	t.Helper()
	if got, n, e := Open(o.k, o.kTime, o.from, b); e != api.OK || n != time || !bytes.Equal(got, body) {
		t.Errorf("%d bytes %x: %x, %d, %v, not %x, %d", len(b), b[:min(len(b), 500)], got[:min(len(got), 100)], n, e, body[:min(len(body), 100)], time)
	}
}

// refuses holds that Open answers this error, and nothing beside it.
func (o opener) refuses(t *testing.T, b []byte, want api.Errno) {
	t.Helper()
	if got, n, e := Open(o.k, o.kTime, o.from, b); e != want || n != 0 || len(got) != 0 {
		t.Errorf("%d bytes %x: %x, %d, %v, not %v", len(b), b[:min(len(b), 500)], got[:min(len(got), 100)], n, e, want)
	}
}

// asModelled holds that Open answers what the model does, and answers its error.
func (o opener) asModelled(t *testing.T, b []byte) api.Errno {
	t.Helper()
	body, time, e := o.modelledOpen(b)
	if e == api.OK {
		o.opens(t, b, body, time)
	} else {
		o.refuses(t, b, e)
	}
	return e
}

// A modelled is a message in pieces, each of which may be made another one: the bodies of the first packet and of the three inside, and what the inside is sealed by.
type modelled struct {
	forWhom                       []byte
	session, salt                 [32]byte
	c                             byte
	announced, literal, signature []byte
}

// modelled is the message of a letter.
func (l letter) modelled() modelled {
	forWhom, e := pkesk.Seal(l.drawn[0], l.to, l.drawn[1])
	if e != api.OK {
		panic(e)
	}
	signer := modelledPrint(l.fromTime, 27, modelledSign(l.from))
	return modelled{
		forWhom: forWhom, session: l.drawn[0], salt: l.drawn[2], c: 4,
		announced: slices.Concat([]byte{0x06, 0x00, 0x0a, 0x1b, 0x20}, l.drawn[3][:], signer[:], []byte{0x01}),
		literal:   modelledLiteral(l.body),
		signature: modelledSignature(l.from, 0, l.time, l.drawn[3], signer, l.body),
	}
}

// inside is the three packets that are sealed.
func (m modelled) inside() []byte {
	return slices.Concat(written(4, m.announced), written(11, m.literal), written(2, m.signature))
}

// sealed is the body of the second packet, with any bytes inside.
func (m modelled) sealed(inside []byte) []byte {
	return modelledChunks(m.session, m.salt, m.c, inside)
}

// around is the message with any bytes inside.
func (m modelled) around(inside []byte) []byte {
	return slices.Concat(written(1, m.forWhom), written(18, m.sealed(inside)))
}

// of is the message with any packets inside.
func (m modelled) of(list ...api.Packet) []byte {
	var inside []byte
	for _, p := range list {
		inside = append(inside, written(byte(p.Tag), p.Body)...)
	}
	return m.around(inside)
}

func (m modelled) bytes() []byte {
	return m.around(m.inside())
}

func modelledLiteral(body []byte) []byte {
	return append([]byte("b\x00\x00\x00\x00\x00"), body...)
}

// written is a packet in the shortest form.
func written(tag byte, body []byte) []byte {
	n := len(body)
	size := []byte{255, byte(n >> 24), byte(n >> 16), byte(n >> 8), byte(n)}
	switch {
	case n < 192:
		size = size[4:]
	case n < 8384:
		size = []byte{192 + byte((n-192)>>8), byte(n - 192)}
	}
	return slices.Concat([]byte{0xc0 | tag}, size, body)
}

// modelledChunks is what layer 16 says of any number of bytes, also of more than its Seal takes.
func modelledChunks(session, salt [32]byte, c byte, plain []byte) []byte {
	info := []byte{0xd2, 0x02, 0x09, 0x02, c}
	derived := sha2.Derive(salt[:], session[:], info, 39)
	body := append(slices.Clone(info[1:]), salt[:]...)
	i := uint64(0)
	seal := func(plain, ad []byte) {
		sealed, e := ocb.Seal(derived[:32], binary.BigEndian.AppendUint64(slices.Clone(derived[32:]), i), ad, plain)
		if e != api.OK {
			panic(e)
		}
		body = append(body, sealed...)
		i++
	}
	for chunk := range slices.Chunk(plain, 64<<c) {
		seal(chunk, info)
	}
	seal(nil, binary.BigEndian.AppendUint64(info, uint64(len(plain))))
	return body
}

// modelledSign is the public key of what k signs with, by the library.
func modelledSign(k api.Key) []byte {
	return ed25519.NewKeyFromSeed(k.Sign[:]).Public().(ed25519.PublicKey)
}

// modelledBox is the public key of k's other half, by the library.
func modelledBox(k api.Key) []byte {
	secret, err := ecdh.X25519().NewPrivateKey(k.Box[:])
	if err != nil {
		panic(err)
	}
	return secret.PublicKey().Bytes()
}

// modelledPrint is the fingerprint of a key packet, by the library.
func modelledPrint(time uint32, algorithm byte, public []byte) [32]byte {
	var b bytes.Buffer
	b.Write([]byte{0x9b, 0, 0, 0, 0x2a, 0x06})
	binary.Write(&b, binary.BigEndian, time)
	b.Write([]byte{algorithm, 0, 0, 0, 0x20})
	b.Write(public)
	return sha256.Sum256(b.Bytes())
}

// modelledSignature is the body of a signature packet, by the library.
func modelledSignature(k api.Key, kind byte, time uint32, salt, signer [32]byte, what []byte) []byte {
	var b bytes.Buffer
	b.Write([]byte{0x06, kind, 0x1b, 0x0a, 0, 0, 0, 0x29, 0x05, 0x02})
	binary.Write(&b, binary.BigEndian, time)
	b.Write([]byte{0x22, 0x21, 0x06})
	b.Write(signer[:])
	head := b.Bytes()
	hash := sha512.Sum512(slices.Concat(salt[:], what, head, []byte{0x06, 0xff, 0, 0, 0, 0x31}))
	return slices.Concat(head, make([]byte, 4), hash[:2], []byte{0x20}, salt[:], ed25519.Sign(ed25519.NewKeyFromSeed(k.Sign[:]), hash[:]))
}

// tags answers the packets' tags.
func tags(list []api.Packet) []int {
	var all []int
	for _, p := range list {
		all = append(all, p.Tag)
	}
	return all
}

// modelledOpen answers what Open must, question by question.
func (o opener) modelledOpen(b []byte) ([]byte, uint32, api.Errno) {
	list, e := packet.Parse(b)
	if e != api.OK {
		return nil, 0, e
	}
	if !slices.Equal(tags(list), []int{1, 18}) {
		return nil, 0, api.ErrForm
	}
	session, e := pkesk.Open(list[0].Body, o.k, cert.Cert{Prints: [2][32]byte{1: modelledPrint(o.kTime, 25, modelledBox(o.k))}})
	if e != api.OK {
		return nil, 0, e
	}
	plain, e := seipd.Open(session, list[1].Body)
	if e != api.OK {
		return nil, 0, e
	}
	return o.modelledInside(plain)
}

// modelledInside answers what Open must of what is sealed.
func (o opener) modelledInside(b []byte) ([]byte, uint32, api.Errno) {
	list, e := packet.Parse(b)
	if e != api.OK {
		return nil, 0, e
	}
	if !slices.Equal(tags(list), []int{4, 11, 2}) {
		return nil, 0, api.ErrForm
	}
	first, second, third := list[0].Body, list[1].Body, list[2].Body
	if len(first) != 70 || string(first[:5]) != "\x06\x00\x0a\x1b\x20" || first[69] != 1 || len(second) < 6 || string(second[:6]) != "b\x00\x00\x00\x00\x00" {
		return nil, 0, api.ErrForm
	}
	if !bytes.Equal(first[37:69], o.from.Prints[0][:]) {
		return nil, 0, api.ErrSig
	}
	time, e := cert.Check(o.from.Sign, o.from.Prints[0], third, 0, second[6:])
	if e != api.OK {
		return nil, 0, e
	}
	if !bytes.Equal(third[56:88], first[5:37]) {
		return nil, 0, api.ErrForm
	}
	return second[6:], time, api.OK
}

// The model opens what it seals, and nothing beside it: what is held against it isn't held against too little.
func TestModelOpens(t *testing.T) {
	d := drawnBy(4)
	for _, n := range []int{0, 1, 185, 186, 2400, 9000, 15000} {
		l, o := d.letter(n)
		b := l.modelled().bytes()
		if body, time, e := o.modelledOpen(b); e != api.OK || time != l.time || !bytes.Equal(body, l.body) {
			t.Errorf("%d bytes: %v", n, e)
		}
		b[d.IntN(len(b))]++
		if _, _, e := o.modelledOpen(b); e == api.OK {
			t.Errorf("%d bytes, one of them another one, are opened", n)
		}
	}
}

// spoil changes all of the bytes, their spare room too.
func spoil(b []byte) {
	b = b[:cap(b)]
	for i := range b {
		b[i] ^= 255
	}
}
