package x3dh

import (
	"testing"

	"postilion/api"
)

// A handed is all that the three calls are given.
type handed struct {
	s                  Secrets
	b                  Bundle
	id, drawn          [32]byte
	theirs, theirDrawn [32]byte
}

// handedBy answers what is drawn to be handed in.
func handedBy(seed uint64) handed {
	d := drawnBy(seed)
	h := handed{s: d.secrets(), id: d.array(), drawn: d.array()}
	h.b = modelledPublish(h.s, true)
	h.theirs, h.theirDrawn = modelledPublic(h.id), modelledPublic(h.drawn)
	return h
}

// What is handed in stays as it is, whatever the answer.
func TestP18_1HandedInStays(t *testing.T) {
	for _, once := range []bool{false, true} {
		h := handedBy(50)
		before := h
		left := func(what string) {
			t.Helper()
			if h != before {
				t.Fatalf("changed what is handed in: %s", what)
			}
		}
		Publish(h.s, once)
		left("Publish")
		Start(h.id, h.drawn, h.b)
		left("Start")
		Answer(h.s, once, h.theirs, h.theirDrawn)
		left("Answer")
		h.b.Sig[3]++
		before = h
		Start(h.id, h.drawn, h.b)
		left("Start of one that isn't signed")
		h = handedBy(50)
		h.b.ID, h.theirDrawn = [32]byte{}, [32]byte{1}
		before = h
		Start(h.id, h.drawn, h.b)
		left("Start of one of small order")
		Answer(h.s, once, h.theirs, h.theirDrawn)
		left("Answer of one of small order")
	}
}

// What is handed in isn't kept, and an answer is its receiver's own: who changes them changes no other answer.
func TestP18_1NothingIsKept(t *testing.T) {
	h := handedBy(51)
	b := Publish(h.s, true)
	x, e := Start(h.id, h.drawn, h.b)
	y, f := Answer(h.s, true, h.theirs, h.theirDrawn)
	if e != api.OK || f != api.OK {
		t.Fatal(e, f)
	}
	wantedBundle, wanted := b, x
	h = handed{}
	if b != wantedBundle || x != wanted || y != wanted {
		t.Error("an answer changes with what was handed in")
	}
	b, x, y = Bundle{}, [32]byte{}, [32]byte{}
	h = handedBy(51)
	if again := Publish(h.s, true); again != wantedBundle || again == b {
		t.Errorf("%x, not %x", again, wantedBundle)
	}
	if again, e := Start(h.id, h.drawn, h.b); e != api.OK || again != wanted || again == x {
		t.Errorf("%x, %v, not %x", again, e, wanted)
	}
	if again, e := Answer(h.s, true, h.theirs, h.theirDrawn); e != api.OK || again != wanted || again == y {
		t.Errorf("%x, %v, not %x", again, e, wanted)
	}
}

// What a call answers hangs on what it is given alone, not on the calls ahead of it: a Once may be used again here, since nobody keeps count.
func TestP18_1AnswersStay(t *testing.T) {
	h := handedBy(52)
	want, _ := modelledStart(h.id, h.drawn, h.b)
	for n := range uint64(50) {
		other := handedBy(100 + n)
		Publish(other.s, n%2 == 0)
		Start(other.id, h.drawn, h.b)
		Start(h.id, h.drawn, other.b)
		Start(h.id, h.drawn, Bundle{Pre: h.b.Pre})
		Answer(h.s, n%2 == 0, other.theirs, [32]byte{})
		Answer(other.s, true, h.theirs, h.theirDrawn)
		if b := Publish(h.s, true); b != h.b {
			t.Fatalf("behind %d: %x, not %x", n, b, h.b)
		}
		x, e := Start(h.id, h.drawn, h.b)
		y, f := Answer(h.s, true, h.theirs, h.theirDrawn)
		if x != want || y != want || e != api.OK || f != api.OK {
			t.Fatalf("behind %d: %x, %v and %x, %v, not %x", n, x, e, y, f, want)
		}
	}
}
