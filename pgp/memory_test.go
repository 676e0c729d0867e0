package pgp

import (
	"bytes"
	"slices"
	"testing"

	"postilion/api"
	"postilion/cert"
)

// inRoom answers a piece of memory in which b lies, with spare room ahead of it and behind it, and b there.
func inRoom(b []byte) (room, there []byte) {
	room = bytes.Repeat([]byte{0xa5, 0xc1, 0x6d, 0, 0xd2}, 200+len(b))
	return room, append(room[500:500], b...)
}

// What is handed in is left as it is, its spare room too, whatever the answer.
func TestP17_1SealLeavesItsArguments(t *testing.T) {
	for _, n := range []int{0, 1, 185, 186, 789, 2400, 2401} {
		l, _ := right(n)
		room, body := inRoom(l.body)
		before, asked := slices.Clone(room), l
		l.body = body
		if n > 2400 {
			l.fails(t, api.ErrLong)
		} else {
			l.seals(t)
		}
		l.to.Box = [32]byte{}
		l.seal()
		if l.from != asked.from || l.drawn != asked.drawn || !bytes.Equal(room, before) {
			t.Errorf("Seal changes what is handed in, of %d bytes", n)
		}
	}
}

func TestP17_1OpenLeavesItsArguments(t *testing.T) {
	l, o := right(5)
	room, b := inRoom(l.seals(t))
	before, asked := slices.Clone(room), o
	left := func(what string) {
		t.Helper()
		if o != asked || !bytes.Equal(room, before) {
			t.Fatalf("Open changes what is handed in: %s", what)
		}
	}
	o.opens(t, b, l.body, l.time)
	left("of what was sealed")
	for n := range b {
		Open(o.k, o.kTime, o.from, b[:n])
		left("cut off")
		Open(o.k, o.kTime, o.from, room[n:])
		left("of other bytes")
	}
	Open(api.Key{}, o.kTime, o.from, b)
	Open(o.k, o.kTime, cert.Cert{}, b)
	left("by others")
	m := l.modelled()
	for _, other := range [][]byte{m.around(nil), m.around(tooLong()), m.around(m.inside()[:100])} {
		room, b := inRoom(other)
		before := slices.Clone(room)
		Open(o.k, o.kTime, o.from, b)
		if !bytes.Equal(room, before) {
			t.Fatal("Open changes what is handed in, of another inside")
		}
	}
}

// What is handed in isn't kept: who handed it in may change it, and the answer stays.
func TestP17_1NothingIsKept(t *testing.T) {
	for _, n := range []int{0, 1, 300, 2400} {
		l, o := right(n)
		made := l.seals(t)
		room, body := inRoom(l.body)
		other := l
		other.body = body
		b := other.seals(t)
		spoil(room)
		if !bytes.Equal(b, made) {
			t.Errorf("an answer changes with what was handed in, of %d bytes", n)
		}
		if n > 0 && bytes.Equal(other.seals(t), made) {
			t.Errorf("another body of %d bytes in the same place is the same message", n)
		}
		room, b = inRoom(made)
		got, time, e := Open(o.k, o.kTime, o.from, b)
		spoil(room)
		if e != api.OK || time != l.time || !bytes.Equal(got, l.body) {
			t.Errorf("%x, %d, %v", got, time, e)
		}
		o.refuses(t, b, api.ErrForm)
		spoil(room)
		o.opens(t, b, l.body, l.time)
	}
}

// An answer is its receiver's own, its spare room too: it lies neither in an argument nor in another answer, and the next one is the same.
func TestP17_1AnswersAreNew(t *testing.T) {
	for _, n := range []int{0, 1, 300, 2400} {
		l, o := right(n)
		room, body := inRoom(l.body)
		before := slices.Clone(room)
		l.body = body
		first, second := l.seals(t), l.seals(t)
		want := slices.Clone(first)
		spoil(second)
		if !bytes.Equal(first, want) || !bytes.Equal(room, before) {
			t.Errorf("what Seal answers of %d bytes lies in an argument, or in another answer", n)
		}
		room, b := inRoom(want)
		before = slices.Clone(room)
		one, _, _ := Open(o.k, o.kTime, o.from, b)
		other, _, _ := Open(o.k, o.kTime, o.from, b)
		spoil(other)
		if !bytes.Equal(one, l.body) || !bytes.Equal(room, before) {
			t.Errorf("what Open answers of %d bytes lies in an argument, or in another answer", n)
		}
		spoil(one)
		o.opens(t, b, l.body, l.time)
		if !bytes.Equal(l.seals(t), want) {
			t.Errorf("what Seal answers of %d bytes hangs on what was answered", n)
		}
	}
}

// A message that is sealed, and opened, once more: the arguments may be answers.
func TestP17_1OnceMore(t *testing.T) {
	l, o := right(100)
	inner := l.seals(t)
	outer := l
	outer.body = inner
	got, time, e := Open(o.k, o.kTime, o.from, outer.seals(t))
	if e != api.OK || time != l.time {
		t.Fatal(time, e)
	}
	o.opens(t, got, l.body, l.time)
}

// What a call answers hangs on what it is given alone, not on the calls ahead of it.
func TestP17_1AnswersStay(t *testing.T) {
	l, o := right(50)
	made := l.seals(t)
	d := drawnBy(50)
	for n := range 60 {
		other, by := d.letter(n)
		b := other.seals(t)
		by.opens(t, b, other.body, other.time)
		by.refuses(t, made, api.ErrNone)
		o.refuses(t, b, api.ErrNone)
		o.refuses(t, made[:n], api.ErrForm)
		opener{k: o.k, kTime: o.kTime, from: by.from}.refuses(t, made, api.ErrSig)
		other.body = make([]byte, 2401)
		other.fails(t, api.ErrLong)
		o.opens(t, made, l.body, l.time)
		if b := l.seals(t); !bytes.Equal(b, made) {
			t.Fatalf("behind %d: %x, not %x", n, b, made)
		}
	}
}
