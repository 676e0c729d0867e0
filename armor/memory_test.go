package armor

import (
	"bytes"
	"slices"
	"strings"
	"testing"
	"unsafe"

	"postilion/api"
)

// spoil changes all of the bytes, their spare room too.
func spoil(b []byte) {
	b = b[:cap(b)]
	for i := range b {
		b[i] ^= 255
	}
}

// What is handed in is left as it is, and so is what lies around it.
func TestP12_1LeavesItsArgument(t *testing.T) {
	room := filled(2 * api.MaxPacket)
	before := slices.Clone(room)
	for _, n := range []int{0, 1, 2, 3, 4, 47, 48, 49, 50, 100, api.MaxPacket, api.MaxPacket + 1} {
		b := room[7 : 7+n]
		Sum(b)
		Base64(b)
		for _, kind := range append(kinds(), "", "message") {
			Encode(kind, b, true)
			Encode(kind, b, false)
		}
		if !bytes.Equal(room, before) {
			t.Fatalf("%d bytes are changed, or what lies around them", n)
		}
	}
}

// What is answered stays, when who handed the bytes in changes them.
func TestP12_1KeepsNothing(t *testing.T) {
	for _, n := range []int{0, 1, 48, 49, 300} {
		b := filled(n)
		plain := Base64(b)
		s, _ := Encode("MESSAGE", b, true)
		wantPlain, want := strings.Clone(plain), strings.Clone(s)
		spoil(b)
		if plain != wantPlain || s != want {
			t.Errorf("%d: an answer changes with the bytes", n)
		}
		spoil(b)
		encodes(t, "MESSAGE", b, true, want)
		inBase64(t, b, wantPlain)
	}
}

// The bytes that are answered are their receiver's own, their spare room too.
func TestP12_1AnswersAreNew(t *testing.T) {
	for _, n := range []int{1, 2, 3, 4, 48, 49, 300} {
		s := armored("MESSAGE", filled(n), 64, true)
		_, b, _ := Decode(s)
		_, c, _ := Decode(s)
		spoil(b)
		b = append(b, "more"...)
		if !bytes.Equal(c, filled(n)) {
			t.Errorf("%d: two answers of Decode share memory", n)
		}
		decodes(t, s, "MESSAGE", filled(n))
		plain := Base64(filled(n))
		b, _ = Unbase64(plain)
		c, _ = Unbase64(plain)
		spoil(b)
		if !bytes.Equal(c, filled(n)) {
			t.Errorf("%d: two answers of Unbase64 share memory", n)
		}
		inBase64(t, filled(n), plain)
	}
}

// within tells whether a part of a text lies in the memory of another one.
func within(part, whole string) bool {
	if part == "" || whole == "" {
		return false
	}
	at, start := uintptr(unsafe.Pointer(unsafe.StringData(part))), uintptr(unsafe.Pointer(unsafe.StringData(whole)))
	return at >= start && at < start+uintptr(len(whole))
}

// The texts that are answered share no memory with those that were handed in, though these can't be changed.
func TestP12_1TextsAreNew(t *testing.T) {
	for _, kind := range kinds() {
		s := armored(kind, filled(9), 64, true)
		k, _, e := Decode(s)
		if e != api.OK || within(k, s) {
			t.Errorf("%v: the kind %q is a part of the armor", e, k)
		}
		own := strings.Clone(kind)
		if s, _ := Encode(own, nil, false); within(own, s) || within(s, own) {
			t.Errorf("the armor of %q has that text in it", kind)
		}
	}
}

// What a call answers hangs on what it is given alone, not on the calls ahead of it.
func TestP12_1AnswersStay(t *testing.T) {
	x := drawn(8)
	want := armored("SIGNATURE", filled(100), 64, true)
	for range 500 {
		b := x.bytes(x.IntN(200))
		s := x.armor(x.of(kinds()...), b)
		Decode(s)
		Decode(x.spoiled(s))
		Unbase64(s)
		Encode(x.of("MESSAGE", "none"), b, true)
		encodes(t, "SIGNATURE", filled(100), true, want)
		decodes(t, want, "SIGNATURE", filled(100))
		if Sum(filled(100)) != remainder(filled(100)) {
			t.Fatal("the sum has changed")
		}
	}
}
