package cert

import (
	"bytes"
	"slices"
	"testing"

	"postilion/api"
)

// inRoom answers a certificate's bytes, a signature's body and what it is of, which lie in one piece of memory with spare room, and that piece.
func inRoom() (b, body, what, room []byte) {
	_, q := right()
	made := planned(drawn(60).key(), 6, nil).bytes()
	room = filled(4000)
	b = append(room[100:100], made...)
	body = append(room[1000:1000], q.body...)
	what = append(room[2000:2000], q.what...)
	return b, body, what, room
}

// What is handed in is left as it is, its spare room too, whatever the answer.
func TestP14_1LeavesItsArguments(t *testing.T) {
	_, body, what, room := inRoom()
	k, q := right()
	before := slices.Clone(room)
	left := func(call string) {
		t.Helper()
		if !bytes.Equal(room, before) {
			t.Fatalf("%s changes what is handed in", call)
		}
	}
	for n := range 200 {
		Fingerprint(room[n:][:n])
		left("Fingerprint")
		Signature(k, byte(n), 5, [32]byte{1}, q.signer, room[n:][:n])
		left("Signature")
		Check(q.public, q.signer, room[1000:][:n], 24, what)
		left("Check of another size")
		Check(q.public, q.signer, body, byte(n), what)
		left("Check of a type")
		Check(q.public, q.signer, body, 24, room[2000:][:n])
		left("Check of other bytes")
	}
	question{q.public, q.signer, body, 24, what}.holds(t, 99)
	left("Check")
	Check([32]byte{}, q.signer, body, 24, what)
	left("Check under no point")
}

// What is signed may be the body itself, or lie in it.
func TestP14_1ArgumentsOverlap(t *testing.T) {
	k, q := right()
	b := Signature(k, 0, 9, [32]byte{1}, q.signer, q.body)
	question{q.public, q.signer, b, 0, q.body}.holds(t, 9)
	question{q.public, q.signer, b, 0, b}.fails(t, api.ErrSig)
	question{q.public, q.signer, b, 0, b[10:20]}.fails(t, api.ErrSig)
}

func TestP14_2ParseLeavesItsArgument(t *testing.T) {
	b, _, _, room := inRoom()
	before := slices.Clone(room)
	for n := range len(b) + 100 {
		Parse(room[100:][:n])
		Parse(room[100+n:][:50])
		if !bytes.Equal(room, before) {
			t.Fatalf("Parse of %d bytes changes what is handed in", n)
		}
	}
	if _, e := Parse(b); e != api.OK || !bytes.Equal(room, before) {
		t.Error(e)
	}
}

// What is handed in isn't kept: who handed it in may change it, and the answer stays.
func TestP14_1KeepsNothing(t *testing.T) {
	_, _, what, room := inRoom()
	k, q := right()
	b, sum := Signature(k, 24, 99, [32]byte{1}, q.signer, what), Fingerprint(what)
	want, wantSum := slices.Clone(b), sum
	spoil(room)
	if !bytes.Equal(b, want) || sum != wantSum {
		t.Error("an answer changes with what was handed in")
	}
	if other := Fingerprint(what); other == sum || other != modelledPrint(what) {
		t.Error("other bytes in the same place have the same fingerprint")
	}
	question{q.public, q.signer, b, 24, what}.fails(t, api.ErrSig)
	if other := Signature(k, 24, 99, [32]byte{1}, q.signer, what); bytes.Equal(other, b) {
		t.Error("other bytes in the same place have the same signature")
	}
	spoil(room)
	question{q.public, q.signer, b, 24, what}.holds(t, 99)
}

func TestP14_2ParseKeepsNothing(t *testing.T) {
	b, _, _, room := inRoom()
	c, e := Parse(b)
	want := c
	spoil(room)
	if e != api.OK || c != want {
		t.Errorf("%x, %v", c, e)
	}
	refuses(t, b, api.ErrForm)
	spoil(room)
	parses(t, b, want)
}

// newEach holds that answers are their receiver's own, their spare room too: two share none, and the next one is the same.
func newEach(t *testing.T, name string, call func() []byte) {
	t.Helper()
	first, second := call(), call()
	want := slices.Clone(first)
	spoil(second)
	if !bytes.Equal(first, want) {
		t.Errorf("%s: two answers share memory", name)
	}
	spoil(first)
	if b := call(); !bytes.Equal(b, want) {
		t.Errorf("%s: %x, not %x", name, b, want)
	}
}

func TestP14_1AnswersAreNew(t *testing.T) {
	_, _, what, room := inRoom()
	k, q := right()
	before := slices.Clone(room)
	newEach(t, "KeyPacket", func() []byte { return KeyPacket(5, 27, full()) })
	newEach(t, "Signature", func() []byte { return Signature(k, 24, 99, [32]byte{1}, q.signer, what) })
	newEach(t, "Signature of no bytes", func() []byte { return Signature(k, 24, 99, [32]byte{1}, q.signer, room[:0]) })
	if !bytes.Equal(room, before) {
		t.Error("an answer shares memory with what is handed in")
	}
}

func TestP14_2MakeAnswersAreNew(t *testing.T) {
	k := drawn(61).key()
	newEach(t, "Make", func() []byte { return Make(k, 5, [2][32]byte{{1}, {2}}) })
	parses(t, Make(k, 5, [2][32]byte{{1}, {2}}), Of(k, 5))
}

// What a call answers hangs on what it is given alone, not on the calls ahead of it.
func TestP14_1AnswersStay(t *testing.T) {
	k, q := right()
	made, certified := Make(k, 5, [2][32]byte{}), Of(k, 5)
	d := drawn(62)
	for n := range 100 {
		other := d.key()
		Make(other, uint32(n), [2][32]byte{d.array(), d.array()})
		Parse(d.bytes(d.IntN(60)))
		Parse(made[:n])
		Check(d.array(), q.signer, q.body, 24, q.what)
		Check(q.public, q.signer, q.body, byte(n), q.what)
		Signature(other, byte(n), 99, d.array(), q.signer, q.what)
		Fingerprint(d.bytes(n))
		KeyPacket(uint32(n), byte(n), d.array())
		q.holds(t, 99)
		parses(t, made, certified)
		if b := Make(k, 5, [2][32]byte{}); !bytes.Equal(b, made) {
			t.Fatalf("behind %d: %x, not %x", n, b, made)
		}
		if c := Of(k, 5); c != certified {
			t.Fatalf("behind %d: %x, not %x", n, c, certified)
		}
	}
}
