package packet

import (
	"bytes"
	"slices"
	"testing"

	"postilion/api"
)

// spoil changes all of the bytes, their spare room too.
func spoil(b []byte) {
	b = b[:cap(b)]
	for i := range b {
		b[i] ^= 255
	}
}

// forms answers bytes with packets of all forms.
func forms() []byte {
	parts, _ := inParts(18, []int{9, 0, 2}, 9)
	last, _ := inParts(8, []int{9}, 0)
	return join([]byte("\xc2\x02ab\xc1\x00\x88\x02cd\x84\x00\x89\x00\x02ef\x8a\x00\x00\x00\x02gh\xc2\xff\x00\x00\x00\x02ij\xc5\xc0\x00"), filled(192), parts, last, []byte("\x8fxyz"))
}

// What is handed in is left as it is, its spare room too, whatever the answer.
func TestP11_1ParseLeavesItsArgument(t *testing.T) {
	b := join([]byte("ahead"), forms(), []byte("behind"))
	before := slices.Clone(b)
	for n := 5; n <= len(b); n++ {
		Parse(b[5:n])
		Parse(b[n:])
		if !bytes.Equal(b, before) {
			t.Fatalf("Parse of %d bytes changes them", n)
		}
	}
	list, e := Parse(b[5 : len(b)-6])
	if e != api.OK {
		t.Fatal(e)
	}
	for i := range list {
		spoil(list[i].Body)
		list[i].Body = append(list[i].Body, "more"...)
	}
	if !bytes.Equal(b, before) {
		t.Error("what Parse answers shares memory with the bytes")
	}
}

// The bytes aren't kept: who handed them in may change them.
func TestP11_1ParseKeepsNothing(t *testing.T) {
	b := forms()
	list, _ := Parse(b)
	want, _ := Parse(b)
	spoil(b)
	if len(list) == 0 || !same(list, want) {
		t.Error("what Parse answers changes with the bytes")
	}
}

// No two bodies of one answer share memory, nor two answers.
func TestP11_1ParseAnswersAreNew(t *testing.T) {
	b := forms()
	list, _ := Parse(b)
	other, _ := Parse(b)
	for i := range list {
		spoil(list[i].Body)
		want, e := Parse(b)
		if e != api.OK || !same(other, want) {
			t.Fatalf("%d shares memory with another answer: %v", i, e)
		}
		if len(list[i].Body) > 0 && same(list[i:i+1], want[i:i+1]) {
			t.Fatalf("%d isn't spoiled", i)
		}
		if !same(list[:i], want[:i]) || !same(list[i+1:], want[i+1:]) {
			t.Fatalf("%d shares memory with another body", i)
		}
		spoil(list[i].Body)
	}
	clear(other[:cap(other)])
	if want, _ := Parse(b); !same(list, want) {
		t.Error("two lists share memory")
	}
}

// inRoom answers a list with spare room, whose bodies lie in one piece of memory and have spare room too, and that piece.
func inRoom() ([]api.Packet, []byte) {
	room := filled(3 * api.MaxPacket)
	list := []api.Packet{{Tag: 1, Body: room[:0]}, {Tag: 2, Body: room[10:13]}, {Tag: 63, Body: room[20:500]}, {Tag: 8, Body: room[20:520]}, {Tag: 11, Body: room[600 : 600+api.MaxPacket]}, {Tag: 5}}
	return list[:5], room
}

// What is handed in is left as it is, and so is its spare room, whatever the answer; and it is not kept.
func TestP11_1WriteLeavesItsArgument(t *testing.T) {
	list, room := inRoom()
	spare := list[:cap(list)]
	before, roomBefore := slices.Clone(spare), slices.Clone(room)
	left := func(what string) {
		t.Helper()
		if !same(spare, before) || !bytes.Equal(room, roomBefore) || len(list) != 5 {
			t.Fatalf("%s changes the list", what)
		}
	}
	b, e := Write(list)
	if e != api.OK {
		t.Fatal(e)
	}
	left("Write")
	want := slices.Clone(b)
	spoil(b)
	left("what Write answers")
	b, _ = Write(list)
	spoil(room)
	list[2].Tag = 9
	if !bytes.Equal(b, want) {
		t.Error("what Write answers changes with the list")
	}
	spoil(room)
	list[2].Tag = 63
	unwritten(t, append(slices.Clone(list), api.Packet{}))
	unwritten(t, append(list, api.Packet{}))
	spare[5] = before[5]
	left("a Write that is refused")
	for _, p := range list {
		Formed(p)
	}
	left("Formed")
}

// An answer is its receiver's own, its spare room too.
func TestP11_1WriteAnswersAreNew(t *testing.T) {
	list, _ := inRoom()
	for n := range len(list) + 1 {
		first, _ := Write(list[:n])
		again, _ := Write(list[:n])
		want := slices.Clone(first)
		spoil(again)
		if !bytes.Equal(first, want) {
			t.Errorf("two answers of %d share memory", n)
		}
		spoil(first)
		writes(t, list[:n], want)
	}
}

func TestP11_1LengthAnswersAreNew(t *testing.T) {
	for _, n := range []int{0, 5, 191, 192, 700, 8383, 8384, api.MaxPacket} {
		first, again := Length(n), Length(n)
		want := slices.Clone(first)
		spoil(again)
		if !bytes.Equal(first, want) {
			t.Errorf("%d: two answers share memory", n)
		}
		spoil(first)
		if b := Length(n); !bytes.Equal(b, want) {
			t.Errorf("%d: %x, not %x", n, b, want)
		}
	}
}

// What a call answers hangs on what it is given alone, not on the calls ahead of it.
func TestP11_1AnswersStay(t *testing.T) {
	b := forms()
	want, _ := Parse(b)
	kept, _ := Parse(b)
	x := drawn(5)
	for range 500 {
		Parse(x.bytes(x.IntN(600)))
		list, _ := x.stream(3)
		Write(list)
		if again, e := Parse(b); e != api.OK || !same(again, want) || !same(kept, want) {
			t.Fatalf("%v, %d packets", e, len(again))
		}
	}
}
