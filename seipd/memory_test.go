package seipd

import (
	"bytes"
	"slices"
	"testing"

	"postilion/api"
)

// inRoom answers a piece of memory in which b lies, with spare room ahead of it and behind it, and b there.
func inRoom(b []byte) (room, there []byte) {
	room = bytes.Repeat([]byte{0xa5, 2, 9, 2, 0}, 200+len(b))
	return room, append(room[500:500], b...)
}

// What is handed in is left as it is, its spare room too, whatever the answer.
func TestP16_1ArgumentsAreLeft(t *testing.T) {
	for _, n := range []int{0, 1, 63, 64, 65, 150} {
		for c := range 3 {
			room, plain := inRoom(sample(n))
			before := slices.Clone(room)
			body := seals(t, [32]byte{1}, [32]byte{2}, c, plain)
			fails(t, [32]byte{1}, [32]byte{2}, 11, plain, api.ErrArg)
			if !bytes.Equal(room, before) {
				t.Fatalf("Seal changes what is handed in, of %d bytes", n)
			}
			room, b := inRoom(body)
			before = slices.Clone(room)
			opens(t, [32]byte{1}, b, sample(n))
			refuses(t, [32]byte{2}, b, api.ErrAuth)
			for cut := range b {
				Open([32]byte{1}, b[:cut])
				Open([32]byte{1}, room[cut:])
			}
			if !bytes.Equal(room, before) {
				t.Fatalf("Open changes what is handed in, of %d bytes", n)
			}
		}
	}
}

// What is handed in isn't kept: who handed it in may change it, and the answer stays.
func TestP16_1NothingIsKept(t *testing.T) {
	for _, n := range []int{0, 1, 64, 150} {
		room, plain := inRoom(sample(n))
		body := seals(t, [32]byte{1}, [32]byte{2}, 0, plain)
		want := slices.Clone(body)
		spoil(room)
		if !bytes.Equal(body, want) {
			t.Errorf("an answer changes with what was handed in, of %d bytes", n)
		}
		room, b := inRoom(body)
		opened, e := Open([32]byte{1}, b)
		spoil(room)
		if e != api.OK || !bytes.Equal(opened, sample(n)) {
			t.Errorf("%x, %v", opened, e)
		}
		refuses(t, [32]byte{1}, b, api.ErrForm)
		spoil(room)
		opens(t, [32]byte{1}, b, sample(n))
	}
}

// An answer is its receiver's own, its spare room too: it lies neither in an argument nor in another answer, and the next one is the same.
func TestP16_1AnswersAreNew(t *testing.T) {
	for _, n := range []int{0, 1, 64, 150} {
		room, plain := inRoom(sample(n))
		before := slices.Clone(room)
		first, second := seals(t, [32]byte{1}, [32]byte{2}, 0, plain), seals(t, [32]byte{1}, [32]byte{2}, 0, plain)
		want := slices.Clone(first)
		spoil(second)
		if !bytes.Equal(first, want) || !bytes.Equal(room, before) {
			t.Errorf("what Seal answers of %d bytes lies in an argument, or in another answer", n)
		}
		room, b := inRoom(want)
		before = slices.Clone(room)
		one, _ := Open([32]byte{1}, b)
		other, _ := Open([32]byte{1}, b)
		spoil(other)
		if !bytes.Equal(one, sample(n)) || !bytes.Equal(room, before) {
			t.Errorf("what Open answers of %d bytes lies in an argument, or in another answer", n)
		}
		spoil(one)
		opens(t, [32]byte{1}, b, sample(n))
	}
}

// A body that is sealed, and opened, once more: the arguments may be answers.
func TestP16_1OnceMore(t *testing.T) {
	inner := seals(t, [32]byte{1}, [32]byte{2}, 0, sample(100))
	outer := seals(t, [32]byte{1}, [32]byte{2}, 0, inner)
	got, e := Open([32]byte{1}, outer)
	if e != api.OK {
		t.Fatal(e)
	}
	opens(t, [32]byte{1}, got, sample(100))
}

// What a call answers hangs on what it is given alone, not on the calls ahead of it.
func TestP16_1AnswersStay(t *testing.T) {
	m, session, plain := right(150)
	body, d := m.body(), drawnBy(40)
	for n := range 100 {
		Seal(d.array(), d.array(), n%12, d.bytes(n))
		Seal(session, [32]byte(m.salt), 0, plain[:n])
		Seal(session, [32]byte(m.salt), -1, plain)
		Open(d.array(), body)
		Open(session, body[:n])
		Open(session, d.bytes(n))
		opens(t, session, body, plain)
		if b := seals(t, session, [32]byte(m.salt), 0, plain); !bytes.Equal(b, body) {
			t.Fatalf("behind %d: %x, not %x", n, b, body)
		}
	}
}
