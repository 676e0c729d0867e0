package sha2

import (
	"bytes"
	"crypto/sha256"
	"testing"
)

func TestP1_2New(t *testing.T) {
	h, other := New(), New()
	if h == nil || h == other {
		t.Fatal("New: no Hash of its own")
	}
	if h.Sum() != Sum256(nil) || h.Len() != 0 {
		t.Errorf("new: %x, %d", h.Sum(), h.Len())
	}
	h.Write([]byte("abc"))
	if other.Sum() != Sum256(nil) || New().Sum() != Sum256(nil) {
		t.Error("a Hash is written through another one")
	}
}

func TestP1_2TwoPieces(t *testing.T) {
	b := sample(4, 200)
	want := sha256.Sum256(b)
	for i := range len(b) + 1 {
		h := New()
		h.Write(b[:i])
		if h.Sum() != sha256.Sum256(b[:i]) || h.Len() != uint64(i) {
			t.Errorf("ahead of %d: %x, %d", i, h.Sum(), h.Len())
		}
		h.Write(b[i:])
		if h.Sum() != want || h.Len() != 200 {
			t.Errorf("parted at %d: %x, %d", i, h.Sum(), h.Len())
		}
	}
}

func TestP1_2ManyPieces(t *testing.T) {
	b := sample(5, 1000)
	for _, size := range []int{1, 2, 7, 31, 32, 55, 56, 63, 64, 65, 127, 128, 129, 300} {
		h := New()
		for at := 0; at < len(b); at += size {
			end := min(at+size, len(b))
			h.Write(b[at:end])
			h.Write(nil)
			h.Write([]byte{})
			if h.Sum() != sha256.Sum256(b[:end]) || h.Len() != uint64(end) {
				t.Errorf("pieces of %d, up to %d: %x, %d", size, end, h.Sum(), h.Len())
			}
		}
	}
}

func TestP1_2SumChangesNothing(t *testing.T) {
	for _, n := range []int{0, 1, 55, 56, 63, 64, 100, 119, 120} {
		h := New()
		h.Write(sample(6, n))
		first := h.Sum()
		if h.Sum() != first || h.Len() != uint64(n) {
			t.Errorf("%d bytes: another Sum, or Len %d", n, h.Len())
		}
		h.Write([]byte("more"))
		if want := sha256.Sum256(append(sample(6, n), "more"...)); h.Sum() != want {
			t.Errorf("%d bytes and more: %x", n, h.Sum())
		}
	}
}

// What was written is not asked again: its owner may change it.
func TestP1_2WriteKeepsNothing(t *testing.T) {
	b := sample(7, 100)
	kept := bytes.Clone(b)
	h := New()
	h.Write(b[:70])
	h.Sum()
	if !bytes.Equal(b, kept) {
		t.Error("Write changed its argument")
	}
	clear(b)
	h.Write(kept[70:])
	if h.Sum() != sha256.Sum256(kept) {
		t.Errorf("%x", h.Sum())
	}
}

func TestP1_2CopyGoesOnByItself(t *testing.T) {
	for _, n := range []int{0, 1, 63, 64, 65, 130} {
		b := sample(8, n)
		with := func(s string) [32]byte { return sha256.Sum256(append(bytes.Clone(b), s...)) }
		h := New()
		h.Write(b)
		c := h.Copy()
		if c == nil || c == h || c.Sum() != sha256.Sum256(b) || c.Len() != uint64(n) {
			t.Fatalf("%d bytes: no other Hash that has taken the same", n)
		}
		c.Write([]byte("copy"))
		if h.Sum() != sha256.Sum256(b) || h.Len() != uint64(n) {
			t.Errorf("%d bytes: written through the copy", n)
		}
		h.Write([]byte("first one"))
		if c.Sum() != with("copy") || c.Len() != uint64(n)+4 {
			t.Errorf("%d bytes: the copy is %x, %d", n, c.Sum(), c.Len())
		}
		if h.Sum() != with("first one") || h.Len() != uint64(n)+9 {
			t.Errorf("%d bytes: the first one is %x, %d", n, h.Sum(), h.Len())
		}
		d := c.Copy()
		d.Write(bytes.Repeat([]byte{'d'}, 64))
		if c.Sum() != with("copy") {
			t.Errorf("%d bytes: written through the copy's copy", n)
		}
	}
}

func TestP1_2Nil(t *testing.T) {
	var none *Hash
	none.Write([]byte("abc"))
	none.Write(nil)
	if none.Sum() != [32]byte{} || none.Len() != 0 || none.Copy() != nil {
		t.Errorf("nil: %x, %d, %v", none.Sum(), none.Len(), none.Copy())
	}
}

// What the zero Hash answers is free, but it ends, without a panic, and hangs on its history alone.
func TestP1_2Zero(t *testing.T) {
	var one, two Hash
	for range 3 {
		one.Write(sample(1, 50))
		two.Write(sample(1, 50))
	}
	if c := one.Copy(); c.Sum() != two.Sum() || one.Len() != two.Len() {
		t.Error("two zero Hashes differ")
	}
}

// The number of bits needs more than 32 of them here.
func TestP1_2LongMessage(t *testing.T) {
	if testing.Short() {
		t.Skip("half a gigabyte")
	}
	t.Parallel()
	piece := sample(2, 1<<20+1)
	h, want := New(), sha256.New()
	for range 512 {
		h.Write(piece)
		want.Write(piece)
	}
	if x := h.Sum(); !bytes.Equal(x[:], want.Sum(nil)) || h.Len() != 512*(1<<20+1) {
		t.Errorf("%x, %d", x, h.Len())
	}
}
