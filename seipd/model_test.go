package seipd

import (
	"bytes"
	"crypto/hkdf"
	"crypto/sha256"
	"encoding/binary"
	"math/rand/v2"
	"slices"
	"testing"

	"postilion/api"
)

// A drawer draws from a seed what the tests try; the same each time.
type drawer struct {
	*rand.Rand
}

func drawnBy(seed uint64) drawer {
	return drawer{rand.New(rand.NewPCG(seed, 16))}
}

func (d drawer) bytes(n int) []byte {
	b := make([]byte, n)
	for i := range b {
		b[i] = byte(d.Uint32())
	}
	return b
}

func (d drawer) array() [32]byte {
	return [32]byte(d.bytes(32))
}

// full answers 32 bytes 255.
func full() [32]byte {
	return [32]byte(bytes.Repeat([]byte{255}, 32))
}

// arrays answers 32 noughts, 32 bytes 255, some with one byte that is none, and n drawn ones.
func arrays(n int) [][32]byte {
	all := [][32]byte{{}, full(), {1}, {31: 1}, {31: 128}, {15: 9}}
	d := drawnBy(1)
	for range n {
		all = append(all, d.array())
	}
	return all
}

// sample answers n bytes, the same each time, and the beginning of those for a greater n.
func sample(n int) []byte {
	return drawnBy(2).bytes(n)
}

// edges answers the numbers of bytes beside the ends of chunks of so many, up to three of them, and 0 and 1; none is above most.
func edges(chunk, most int) []int {
	all := []int{0, 1, 2}
	for i := 1; i <= 3; i++ {
		for _, n := range []int{chunk*i - 1, chunk * i, chunk*i + 1, chunk*i + chunk/2} {
			if n <= most {
				all = append(all, n)
			}
		}
	}
	return all
}

// eightOf answers a number's eight bytes.
func eightOf(n int) []byte {
	return binary.BigEndian.AppendUint64(nil, uint64(n))
}

// A modelled is a body in pieces, each of which may be made another one, and what they are sealed by.
type modelled struct {
	head, salt []byte
	chunks     [][]byte
	last       []byte

	book        book
	start, info []byte
}

func (m modelled) body() []byte {
	return slices.Concat(m.head, m.salt, slices.Concat(m.chunks...), m.last)
}

// nonce answers that of the chunk i, of the last tag behind all.
func (m modelled) nonce(i int) []byte {
	return append(slices.Clone(m.start), eightOf(i)...)
}

// chunk answers the chunk i of these bytes.
func (m modelled) chunk(i int, plain []byte) []byte {
	return m.book.seal(m.nonce(i), m.info, plain)
}

// tag answers the last tag behind so many chunks, of n bytes in all.
func (m modelled) tag(chunks, n int) []byte {
	return m.book.seal(m.nonce(chunks), append(slices.Clone(m.info), eightOf(n)...), nil)
}

// modelledHead is a body without chunks, and without a last tag, of RFC 9580, 5.13.2: with a head of any algorithm whose keys have so many bytes.
func modelledHead(session, head, salt []byte, size int) modelled {
	info := append([]byte{0xd2}, head...)
	key, err := hkdf.Key(sha256.New, session, salt, string(info), size+7)
	if err != nil {
		panic(err)
	}
	return modelled{head: head, salt: slices.Clone(salt), book: newBook(key[:size]), start: key[size:], info: info}
}

// modelledSeal answers what Seal must, of any number of bytes.
func modelledSeal(session, salt [32]byte, c int, plain []byte) modelled {
	m := modelledHead(session[:], []byte{2, 9, 2, byte(c)}, salt[:], 32)
	n := 0
	for rest := plain; len(rest) > 0; n++ {
		part := rest[:min(len(rest), 1<<(c+6))]
		m.chunks = append(m.chunks, m.chunk(n, part))
		rest = rest[len(part):]
	}
	m.last = m.tag(n, len(plain))
	return m
}

// modelledOpen answers what Open must: of the bytes that alone could be sealed so, whether sealing them makes the body.
func modelledOpen(session [32]byte, body []byte) ([]byte, api.Errno) {
	switch {
	case len(body) < 36, body[0] != 2:
		return nil, api.ErrForm
	case body[1] != 9, body[2] != 2, body[3] > 10:
		return nil, api.ErrKind
	}
	salt, c := [32]byte(body[4:]), int(body[3])
	m := modelledHead(session[:], body[:4], salt[:], 32)
	var plain []byte
	i := 0
	// What has no more than two tags' bytes is a last tag, or nothing that is sealed.
	for rest := body[36:]; len(rest) > 32; i++ {
		part := rest[:min(len(rest)-16, 1<<(c+6)+16)]
		plain = append(plain, m.book.unsealed(m.nonce(i), part)...)
		rest = rest[len(part):]
	}
	if !bytes.Equal(modelledSeal(session, salt, c, plain).body(), body) {
		return nil, api.ErrAuth
	}
	return plain, api.OK
}

// seals holds that Seal answers what the model does, byte by byte, and answers it.
func seals(t *testing.T, session, salt [32]byte, c int, plain []byte) []byte {
	t.Helper()
	want := modelledSeal(session, salt, c, plain).body()
	b, e := Seal(session, salt, c, plain)
	if e != api.OK || !bytes.Equal(b, want) {
		t.Errorf("%d bytes by %x and %x, c %d: %d bytes %x, %v, not %x", len(plain), session, salt, c, len(b), b[:min(len(b), 200)], e, want[:min(len(want), 200)])
	}
	return b
}

// fails holds that Seal answers this error, and nothing beside it.
func fails(t *testing.T, session, salt [32]byte, c int, plain []byte, want api.Errno) {
	t.Helper()
	if b, e := Seal(session, salt, c, plain); e != want || len(b) != 0 {
		t.Errorf("%d bytes, c %d: %x, %v, not %v", len(plain), c, b[:min(len(b), 100)], e, want)
	}
}

// opens holds that Open answers these bytes.
func opens(t *testing.T, session [32]byte, body, want []byte) {
	t.Helper()
	if b, e := Open(session, body); e != api.OK || !bytes.Equal(b, want) {
		t.Errorf("%d bytes %x: %x, %v, not %x", len(body), body[:min(len(body), 100)], b[:min(len(b), 100)], e, want[:min(len(want), 100)])
	}
}

// refuses holds that Open answers this error, and nothing beside it.
func refuses(t *testing.T, session [32]byte, body []byte, want api.Errno) {
	t.Helper()
	if b, e := Open(session, body); e != want || len(b) != 0 {
		t.Errorf("%d bytes %x: %x, %v, not %v", len(body), body[:min(len(body), 100)], b[:min(len(b), 100)], e, want)
	}
}

// asModelled holds that Open answers what the model does, and answers its error.
func asModelled(t *testing.T, session [32]byte, body []byte) api.Errno {
	t.Helper()
	want, e := modelledOpen(session, body)
	if e == api.OK {
		opens(t, session, body, want)
	} else {
		refuses(t, session, body, e)
	}
	return e
}

// The model opens what it seals, and nothing beside it: what is held against it isn't held against too little.
func TestModelOpens(t *testing.T) {
	d := drawnBy(3)
	for c := range 11 {
		for _, n := range append(edges(1<<(c+6), 20000), 20000) {
			session, salt, plain := d.array(), d.array(), d.bytes(n)
			b := modelledSeal(session, salt, c, plain).body()
			if back, e := modelledOpen(session, b); e != api.OK || !bytes.Equal(back, plain) {
				t.Errorf("c %d, %d bytes: %v", c, n, e)
			}
			b[36+d.IntN(len(b)-36)]++
			if _, e := modelledOpen(session, b); e != api.ErrAuth {
				t.Errorf("c %d, %d bytes, one of them another one: %v", c, n, e)
			}
		}
	}
}

// spoil changes all of the bytes, their spare room too.
func spoil(b []byte) {
	b = b[:cap(b)]
	for i := range b {
		b[i] ^= 255
	}
}
