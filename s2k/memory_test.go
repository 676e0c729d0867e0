package s2k

import (
	"bytes"
	"slices"
	"testing"

	"postilion/api"
)

// inRoom answers a specifier and a passphrase that lie in one piece of memory, with spare room, and that piece.
func inRoom() (spec, pass, room []byte) {
	room = filled(2000)
	copy(room[10:], specifier(salt, 2))
	return room[10:21], room[30:90], room
}

// What is handed in is left as it is, its spare room too, whatever the answer.
func TestP13_1DeriveLeavesItsArguments(t *testing.T) {
	spec, pass, room := inRoom()
	before := slices.Clone(room)
	left := func(what string) {
		t.Helper()
		if !bytes.Equal(room, before) {
			t.Fatalf("Derive changes what is handed in: %s", what)
		}
	}
	for _, n := range []int{-1, 0, 1, 31, 32, 33, 64, 65} {
		Derive(spec, pass, n)
		left("whole")
		Derive(spec, pass[:0], n)
		left("no passphrase")
		Derive(room[10:100], room[10:1010], n)
		left("one in the other, and more behind")
		Derive(spec, room[:1001], n)
		left("too long a passphrase")
		for size := range 11 {
			Derive(spec[:size], pass, n)
			left("a specifier that is cut off")
		}
		Derive(spec[1:], pass, n)
		left("no specifier")
	}
}

// Where one argument lies in the other one, the key is as of copies.
func TestP13_1DeriveArgumentsOverlap(t *testing.T) {
	spec, _, room := inRoom()
	whole := room[10:1000]
	for _, pass := range [][]byte{spec, whole, spec[2:10], room[:20]} {
		key := derives(t, spec, pass, 64)
		if again := derives(t, slices.Clone(whole), slices.Clone(pass), 64); !bytes.Equal(key, again) {
			t.Errorf("%x, and of copies %x", key, again)
		}
	}
}

// An answer is its receiver's own, its spare room too: it shares no memory with an argument, nor with another answer.
func TestP13_1DeriveAnswersAreNew(t *testing.T) {
	spec, pass, room := inRoom()
	before := slices.Clone(room)
	for n := 1; n <= 64; n++ {
		first, second := derives(t, spec, pass, n), derives(t, spec, pass, n)
		want := slices.Clone(first)
		second = second[:cap(second)]
		for i := range second {
			second[i] ^= 255
		}
		if !bytes.Equal(first, want) {
			t.Errorf("%d bytes: two answers share memory", n)
		}
		if !bytes.Equal(room, before) {
			t.Fatalf("%d bytes: an answer shares memory with an argument", n)
		}
		derives(t, spec, pass, n)
	}
}

// The arguments aren't kept: who handed them in may change them, and the key stays.
func TestP13_1DeriveKeepsNothing(t *testing.T) {
	spec, pass, room := inRoom()
	key := derives(t, spec, pass, 64)
	want := slices.Clone(key)
	for i := range room {
		room[i] ^= 255
	}
	if !bytes.Equal(key, want) {
		t.Error("the key changes with what was handed in")
	}
	refuses(t, spec, pass, 64, api.ErrKind)
	copy(spec, specifier(salt, 2))
	if other := derives(t, spec, pass, 64); bytes.Equal(other, want) {
		t.Error("another passphrase in the same place has the same key")
	}
}

// What a call answers hangs on what it is given alone, not on the calls ahead of it.
func TestP13_1AnswersStay(t *testing.T) {
	spec, pass, _ := inRoom()
	want := slices.Clone(derives(t, spec, pass, 64))
	for code := range 256 {
		Count(byte(code))
		Derive(specifier(salt, byte(code)), filled(code), code%70)
		Derive(spec[:code%11], pass, 32)
		key, size, e := Derive(spec, pass, 64)
		if e != api.OK || size != 11 || !bytes.Equal(key, want) || Count(96) != 65536 {
			t.Fatalf("behind %d: %x, %d, %v", code, key, size, e)
		}
	}
}
