package pkesk

import (
	"bytes"
	"slices"
	"testing"

	"postilion/api"
	"postilion/cert"
)

// inRoom answers a body that lies in a piece of memory with spare room, and that piece.
func inRoom() (body, room []byte) {
	whole, _, _, _ := right()
	room = bytes.Repeat([]byte{0xa5, 6, 33, 6, 25, 40}, 100)
	return append(room[50:50], whole...), room
}

// What is handed in is left as it is, its spare room too, whatever the answer.
func TestP15_1OpenLeavesItsArguments(t *testing.T) {
	body, room := inRoom()
	_, k, to, session := right()
	before, key, certified := slices.Clone(room), k, to
	left := func(what string) {
		t.Helper()
		if !bytes.Equal(room, before) || k != key || to != certified {
			t.Fatalf("Open changes what is handed in: %s", what)
		}
	}
	opens(t, body, k, to, session)
	left("of what was sealed")
	for n := range 300 {
		Open(room[50:][:n], k, to)
		left("of another size")
		Open(room[n:][:109], k, to)
		left("of other bytes")
	}
	Open(body, k, cert.Cert{})
	left("for another fingerprint")
	Open(body, api.Key{}, to)
	left("by another key")
	clear(body[36:68])
	before = slices.Clone(room)
	Open(body, k, to)
	left("of a key of small order")
}

// What is handed in isn't kept: who handed it in may change it, and the answer stays.
func TestP15_1OpenKeepsNothing(t *testing.T) {
	body, room := inRoom()
	_, k, to, want := right()
	session, e := Open(body, k, to)
	spoil(room)
	if e != api.OK || session != want {
		t.Errorf("%x, %v", session, e)
	}
	refuses(t, body, k, to, api.ErrForm)
	spoil(room)
	opens(t, body, k, to, want)
	spoil(body[69:109:109])
	refuses(t, body, k, to, api.ErrAuth)
	spoil(body[69:109:109])
	session[0]++
	opens(t, body, k, to, want)
}

// Seal leaves what is handed in; as values they can't be changed, but pieces of them could be in the answer.
func TestP15_1SealKeepsNothing(t *testing.T) {
	d := drawnBy(40)
	to, session, drawn := cert.Of(d.key(), 5), d.array(), d.array()
	certified, before, secret := to, session, drawn
	b := seals(t, session, to, drawn)
	want := slices.Clone(b)
	clear(to.Prints[1][:])
	clear(to.Box[:])
	session, drawn = [32]byte{}, [32]byte{}
	if !bytes.Equal(b, want) {
		t.Error("an answer changes with what was handed in")
	}
	to, session, drawn = certified, before, secret
	spoil(b)
	if to != certified || session != before || drawn != secret {
		t.Error("an answer shares memory with what is handed in")
	}
	if b := seals(t, session, to, drawn); !bytes.Equal(b, want) {
		t.Errorf("%x, not %x", b, want)
	}
}

// An answer is its receiver's own, its spare room too: two share none, and the next one is the same.
func TestP15_1SealAnswersAreNew(t *testing.T) {
	_, k, to, session := right()
	first, second := seals(t, session, to, [32]byte{7}), seals(t, session, to, [32]byte{7})
	want := slices.Clone(first)
	spoil(second)
	if !bytes.Equal(first, want) {
		t.Error("two answers share memory")
	}
	spoil(first)
	opens(t, seals(t, session, to, [32]byte{7}), k, to, session)
}

// What a call answers hangs on what it is given alone, not on the calls ahead of it.
func TestP15_1AnswersStay(t *testing.T) {
	body, k, to, session := right()
	sealed := seals(t, session, to, [32]byte{7})
	d := drawnBy(41)
	for n := range 100 {
		other := d.key()
		Seal(d.array(), cert.Of(other, uint32(n)), d.array())
		Seal(session, cert.Cert{}, d.array())
		Open(d.bytes(n), other, to)
		Open(body[:n], k, to)
		Open(body, other, to)
		Open(body, other, cert.Of(other, 5))
		opens(t, body, k, to, session)
		if b, e := Seal(session, to, [32]byte{7}); e != api.OK || !bytes.Equal(b, sealed) {
			t.Fatalf("behind %d: %x, %v, not %x", n, b, e, sealed)
		}
	}
}
