package ocb

import (
	"slices"
	"testing"

	"postilion/api"
)

// parts are pieces of one room, each with spare room behind it.
type parts struct {
	room, key, nonce, ad, text []byte
}

func laidOut(seed uint32, text []byte) parts {
	room := sample(seed, 400)
	copy(room[200:], text)
	return parts{room, room[:32], room[50:62], room[100:140], room[200 : 200+len(text)]}
}

// What is handed in is left as it is, its spare room too, whatever the answer.
func TestP3_1ArgumentsAreLeft(t *testing.T) {
	for _, n := range []int{0, 5, 16, 37, 64} {
		p := laidOut(1, sample(2, n))
		before := slices.Clone(p.room)
		sealed, e := Seal(p.key, p.nonce, p.ad, p.text)
		if e != api.OK || !slices.Equal(p.room, before) {
			t.Fatalf("Seal changes an argument, or answers %v", e)
		}
		q := laidOut(1, sealed)
		before = slices.Clone(q.room)
		plain, e := Open(q.key, q.nonce, q.ad, q.text)
		if e != api.OK || !slices.Equal(plain, sample(2, n)) || !slices.Equal(q.room, before) {
			t.Fatalf("Open changes an argument, or answers %x, %v", plain, e)
		}
		refused(t, "another nonce", q.key, q.nonce[1:], q.ad, q.text)
		notTaken(t, q.key[1:], q.nonce, q.ad, q.text)
		notTaken(t, q.key, q.nonce[:0], q.ad, q.text)
		if !slices.Equal(q.room, before) {
			t.Fatal("what is refused changes an argument")
		}
	}
}

// An answer shares nothing with an argument, nor with another answer, its spare room neither.
func TestP3_1AnswersAreNew(t *testing.T) {
	for _, n := range []int{0, 5, 16, 37, 64} {
		p := laidOut(3, sample(4, n))
		before := slices.Clone(p.room)
		first, _ := Seal(p.key, p.nonce, p.ad, p.text)
		want := slices.Clone(first)
		again, _ := Seal(p.key, p.nonce, p.ad, p.text)
		clear(again[:cap(again)])
		if !slices.Equal(first, want) || !slices.Equal(p.room, before) {
			t.Fatal("what Seal answers lies in an argument, or in another answer")
		}
		q := laidOut(3, first)
		before = slices.Clone(q.room)
		opened, _ := Open(q.key, q.nonce, q.ad, q.text)
		other, _ := Open(q.key, q.nonce, q.ad, q.text)
		clear(other[:cap(other)])
		if !slices.Equal(opened, sample(4, n)) || !slices.Equal(q.room, before) {
			t.Fatal("what Open answers lies in an argument, or in another answer")
		}
	}
}

// The arguments may be pieces of one another.
func TestP3_1ArgumentsOverlap(t *testing.T) {
	room := sample(5, 100)
	checkBook(t, room[:32], room[:15], room, room)
	sealed, e := Seal(room[:16], room[:15], room[:16], room[3:50])
	if e != api.OK {
		t.Fatal(e)
	}
	// What was sealed is its own associated bytes and nonce.
	own := newBook(t, room[:16]).seal(sealed[:12], sealed, sealed)
	check(t, room[:16], sealed[:12], sealed, sealed, own)
}

// Nothing is kept from call to call: the same arguments have the same answer, whatever was asked ahead of them.
func TestP3_1NothingIsKept(t *testing.T) {
	key, nonce, ad, text := sample(6, 32), sample(7, 12), sample(8, 20), sample(9, 40)
	want := newBook(t, key).seal(nonce, ad, text)
	check(t, key, nonce, ad, text, want)
	key2 := slices.Clone(key)
	checkBook(t, key2, nonce, ad, text)
	clear(key2)
	checkBook(t, key2, nonce, text, ad)
	notTaken(t, key[:5], nonce, ad, text)
	refused(t, "another text", key, nonce, ad, text)
	check(t, key, nonce, ad, text, want)
}
