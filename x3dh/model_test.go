package x3dh

import (
	"bytes"
	"crypto/ecdh"
	"crypto/ed25519"
	"crypto/hkdf"
	"crypto/sha256"
	"math/rand/v2"
	"slices"
	"testing"

	"postilion/api"
	"postilion/point"
)

// A drawer draws from a seed what the tests try; the same each time.
type drawer struct {
	*rand.Rand
}

func drawnBy(seed uint64) drawer {
	return drawer{rand.New(rand.NewPCG(seed, 18))}
}

func (d drawer) array() [32]byte {
	var b [32]byte
	for i := range b {
		b[i] = byte(d.Uint32())
	}
	return b
}

func (d drawer) secrets() Secrets {
	return Secrets{ID: d.array(), Pre: d.array(), Once: d.array(), Sign: d.array()}
}

func (d drawer) once() bool {
	return d.IntN(2) == 1
}

// full answers 32 bytes 255.
func full() [32]byte {
	return [32]byte(bytes.Repeat([]byte{255}, 32))
}

// high answers a key with its highest bit set.
func high(u [32]byte) [32]byte {
	u[31] |= 128
	return u
}

// arrays answers 32 noughts, 32 bytes 255, some with one byte that is none, and n drawn ones.
func arrays(n int) [][32]byte {
	all := [][32]byte{{}, full(), {8}, {31: 16}, {9}, {15: 1}}
	d := drawnBy(1)
	for range n {
		all = append(all, d.array())
	}
	return all
}

// several answers secrets of noughts, of bytes 255, all of them the same, each of them alone noughts, and n drawn ones.
func several(n int) []Secrets {
	same, d := [32]byte{9}, drawnBy(2)
	all := []Secrets{{}, {full(), full(), full(), full()}, {same, same, same, same}}
	for i := range 4 {
		s := d.secrets()
		*[]*[32]byte{&s.ID, &s.Pre, &s.Once, &s.Sign}[i] = [32]byte{}
		all = append(all, s)
	}
	for range n {
		all = append(all, d.secrets())
	}
	return all
}

// smalls answers the public keys of small order: RFC 7748's, those that are p or more, and each with the highest bit set.
func smalls() [][32]byte {
	less := func(last byte) [32]byte {
		u := full()
		u[0], u[31] = last, 127
		return u
	}
	eight := [32]byte{
		0xe0, 0xeb, 0x7a, 0x7c, 0x3b, 0x41, 0xb8, 0xae, 0x16, 0x56, 0xe3, 0xfa, 0xf1, 0x9f, 0xc4, 0x6a,
		0xda, 0x09, 0x8d, 0xeb, 0x9c, 0x32, 0xb1, 0xfd, 0x86, 0x62, 0x05, 0x16, 0x5f, 0x49, 0xb8, 0x00,
	}
	other := [32]byte{
		0x5f, 0x9c, 0x95, 0xbc, 0xa3, 0x50, 0x8c, 0x24, 0xb1, 0xd0, 0xb1, 0x55, 0x9c, 0x83, 0xef, 0x5b,
		0x04, 0x44, 0x5c, 0xc4, 0x58, 0x1c, 0x8e, 0x86, 0xd8, 0x22, 0x4e, 0xdd, 0xd0, 0x9f, 0x11, 0x57,
	}
	all := [][32]byte{{}, {1}, eight, other, less(0xec), less(0xed), less(0xee)}
	for _, u := range slices.Clone(all) {
		all = append(all, high(u))
	}
	return all
}

// modelledPublic is a secret's public key, by the library.
func modelledPublic(secret [32]byte) [32]byte {
	k, err := ecdh.X25519().NewPrivateKey(secret[:])
	if err != nil {
		panic(err)
	}
	return [32]byte(k.PublicKey().Bytes())
}

// modelledShared is the shared secret by the library, or nothing, if there is none.
func modelledShared(secret, public [32]byte) []byte {
	mine, err := ecdh.X25519().NewPrivateKey(secret[:])
	if err != nil {
		panic(err)
	}
	theirs, err := ecdh.X25519().NewPublicKey(public[:])
	if err != nil {
		panic(err)
	}
	shared, err := mine.ECDH(theirs)
	if err != nil {
		return nil
	}
	return shared
}

// signed answers the bundle with the key of a seed to sign with, and its signature of Pre, by the library.
func signed(b Bundle, seed [32]byte) Bundle {
	k := ed25519.NewKeyFromSeed(seed[:])
	b.Sign = [32]byte(k.Public().(ed25519.PublicKey))
	b.Sig = [64]byte(ed25519.Sign(k, b.Pre[:]))
	return b
}

// verified tells whether layer 7 verifies a bundle's signature: the equation is the library's, which asks for a canonical S, too.
func verified(b Bundle) bool {
	small, e := point.Small(b.Sign)
	return e == api.OK && !small && ed25519.Verify(b.Sign[:], b.Pre[:], b.Sig[:])
}

// modelledPublish is the bundle of secrets.
func modelledPublish(s Secrets, once bool) Bundle {
	b := Bundle{ID: modelledPublic(s.ID), Pre: modelledPublic(s.Pre)}
	if once {
		b.Once = modelledPublic(s.Once)
	}
	return signed(b, s.Sign)
}

// modelledSecret is what comes of shared secrets, of which none is nothing.
func modelledSecret(shared ...[]byte) ([32]byte, api.Errno) {
	all := full()
	whole := all[:]
	for _, s := range shared {
		if s == nil {
			return [32]byte{}, api.ErrForm
		}
		whole = append(whole, s...)
	}
	var salt [32]byte
	key, err := hkdf.Key(sha256.New, whole, salt[:], "postilion x3dh", 32)
	if err != nil {
		panic(err)
	}
	return [32]byte(key), api.OK
}

// modelledStart answers what Start must.
func modelledStart(id, drawn [32]byte, b Bundle) ([32]byte, api.Errno) {
	if !verified(b) {
		return [32]byte{}, api.ErrSig
	}
	first, second, third := modelledShared(id, b.Pre), modelledShared(drawn, b.ID), modelledShared(drawn, b.Pre)
	if b.Once == [32]byte{} {
		return modelledSecret(first, second, third)
	}
	return modelledSecret(first, second, third, modelledShared(drawn, b.Once))
}

// modelledAnswer answers what Answer must.
func modelledAnswer(s Secrets, once bool, id, drawn [32]byte) ([32]byte, api.Errno) {
	first, second, third := modelledShared(s.Pre, id), modelledShared(s.ID, drawn), modelledShared(s.Pre, drawn)
	if !once {
		return modelledSecret(first, second, third)
	}
	return modelledSecret(first, second, third, modelledShared(s.Once, drawn))
}

// publishes holds that Publish answers what the model does, and answers it.
func publishes(t *testing.T, s Secrets, once bool) Bundle {
	t.Helper()
	want, b := modelledPublish(s, once), Publish(s, once)
	if b != want {
		t.Errorf("%x, once %v: %x, not %x", s, once, b, want)
	}
	return b
}

// starts holds that Start answers what the model does, which must be a secret, and answers it.
func starts(t *testing.T, id, drawn [32]byte, b Bundle) [32]byte {
	t.Helper()
	want, e := modelledStart(id, drawn, b)
	if e != api.OK {
		t.Fatalf("the model: %v", e)
	}
	x, e := Start(id, drawn, b)
	if e != api.OK || x != want || x == [32]byte{} {
		t.Errorf("%x, %x and %x: %x, %v, not %x", id, drawn, b, x, e, want)
	}
	return x
}

// refuses holds that Start answers this error, and nothing beside it.
func refuses(t *testing.T, id, drawn [32]byte, b Bundle, want api.Errno) {
	t.Helper()
	if x, e := Start(id, drawn, b); e != want || x != [32]byte{} {
		t.Errorf("%x, %x and %x: %x, %v, not %v", id, drawn, b, x, e, want)
	}
}

// tells holds that Answer answers what the model does, which must be a secret, and answers it.
func tells(t *testing.T, s Secrets, once bool, id, drawn [32]byte) [32]byte {
	t.Helper()
	want, e := modelledAnswer(s, once, id, drawn)
	if e != api.OK {
		t.Fatalf("the model: %v", e)
	}
	x, e := Answer(s, once, id, drawn)
	if e != api.OK || x != want || x == [32]byte{} {
		t.Errorf("%x, once %v, %x and %x: %x, %v, not %x", s, once, id, drawn, x, e, want)
	}
	return x
}

// fails holds that Answer answers ErrForm, and nothing beside it.
func fails(t *testing.T, s Secrets, once bool, id, drawn [32]byte) {
	t.Helper()
	if x, e := Answer(s, once, id, drawn); e != api.ErrForm || x != [32]byte{} {
		t.Errorf("%x, once %v, %x and %x: %x, %v", s, once, id, drawn, x, e)
	}
}

// The keys of small order are such for the model, too, and there are as many as there are.
func TestModelSmalls(t *testing.T) {
	seen := map[[32]byte]int{}
	for _, u := range smalls() {
		for _, secret := range arrays(3) {
			if s := modelledShared(secret, u); s != nil {
				t.Errorf("%x and %x: %x", secret, u, s)
			}
		}
		seen[u]++
	}
	if len(seen) != 14 {
		t.Errorf("%d of small order", len(seen))
	}
}
