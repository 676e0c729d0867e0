package packet

import (
	"bytes"
	"testing"

	"postilion/api"
)

// roundTrip holds that what was written is read as it was, and writes the list's own bytes.
func roundTrip(t *testing.T, list []api.Packet) []byte {
	t.Helper()
	b, e := Write(list)
	if e != api.OK {
		t.Fatalf("Write of %d: %v", len(list), e)
	}
	parses(t, b, list...)
	return b
}

// readAgain holds that what is read of the bytes, written and read once more is the same, and is written as the same bytes; it tells whether anything is read.
func readAgain(t *testing.T, b []byte) bool {
	t.Helper()
	list, e := Parse(b)
	if e != api.OK {
		return false
	}
	for _, p := range list {
		if !Formed(p) {
			t.Fatalf("%d bytes %x: tag %d, %d bytes isn't formed", len(b), short(b), p.Tag, len(p.Body))
		}
	}
	first := roundTrip(t, list)
	again, _ := Parse(first)
	if second, e := Write(again); e != api.OK || !bytes.Equal(first, second) {
		t.Fatalf("%d bytes %x: %v, written again as others", len(b), short(b), e)
	}
	return true
}

func TestP11_2EachSize(t *testing.T) {
	var list []api.Packet
	for size := 0; size <= api.MaxPacket; size += 1 + size/600 {
		list = append(list, api.Packet{Tag: 1 + size%63, Body: filled(size)})
	}
	for _, size := range []int{191, 192, 193, 8383, 8384, 8385, api.MaxPacket - 1, api.MaxPacket} {
		for tag := 1; tag <= 63; tag++ {
			list = append(list, api.Packet{Tag: tag, Body: filled(size)})
			roundTrip(t, list[len(list)-1:])
		}
	}
	roundTrip(t, list)
	roundTrip(t, nil)
}

func TestP11_2Drawn(t *testing.T) {
	x := drawn(3)
	for range 3000 {
		list, b := x.stream(6)
		roundTrip(t, list)
		if !readAgain(t, b) {
			t.Fatalf("%d bytes %x aren't read", len(b), short(b))
		}
	}
	read := 0
	for range 300000 {
		if readAgain(t, x.bytes(x.IntN(12))) {
			read++
		}
	}
	if read < 1000 {
		t.Errorf("of what was drawn only %d are read", read)
	}
}

// What was read in each form is written in the shortest one, and read as the same.
func TestP11_2ShortestForm(t *testing.T) {
	want := []byte("\xc2\x02ab")
	for _, s := range []string{"\xc2\x02ab", "\xc2\xff\x00\x00\x00\x02ab", "\x88\x02ab", "\x89\x00\x02ab", "\x8a\x00\x00\x00\x02ab", "\x8bab"} {
		list, e := Parse([]byte(s))
		if e != api.OK {
			t.Fatalf("%x: %v", s, e)
		}
		writes(t, list, want)
		readAgain(t, []byte(s))
	}
	parts, p := inParts(8, []int{9, 3, 0}, 0)
	writes(t, []api.Packet{p}, join([]byte{0xc8}, Length(521), p.Body))
	if !readAgain(t, parts) {
		t.Error("parts aren't read")
	}
}

// Whatever comes in is read as the model says, or refused; and what is read goes there and back.
func FuzzP11_2(f *testing.F) {
	x := drawn(4)
	for range 50 {
		_, b := x.stream(3)
		f.Add(b)
	}
	f.Fuzz(func(t *testing.T, b []byte) {
		asModelled(t, b)
		readAgain(t, b)
	})
}
