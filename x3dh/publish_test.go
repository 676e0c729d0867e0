package x3dh

import (
	"testing"

	"postilion/api"
	"postilion/eddsa"
	"postilion/xdh"
)

// The chapter's example.
func TestP18_1PublishWithoutOnce(t *testing.T) {
	for _, s := range several(20) {
		if b := Publish(s, false); b.Once != [32]byte{} {
			t.Errorf("%x: Once is %x", s, b.Once)
		}
		if b := Publish(s, true); b.Once == [32]byte{} {
			t.Errorf("%x: Once is noughts", s)
		}
	}
}

func TestP18_1Publish(t *testing.T) {
	seen, tried := map[Bundle]int{}, 0
	for _, s := range several(60) {
		for _, once := range []bool{false, true} {
			seen[publishes(t, s, once)]++
			tried++
		}
	}
	if len(seen) != tried {
		t.Errorf("%d bundles of %d", len(seen), tried)
	}
}

// Without once, the secrets' Once counts for nothing; with it, only for the bundle's.
func TestP18_1PublishAnyOnce(t *testing.T) {
	s := drawnBy(10).secrets()
	without := publishes(t, s, false)
	seen, tried := map[[32]byte]int{}, 0
	for _, other := range append(arrays(10), s.ID, s.Pre, s.Sign) {
		s.Once = other
		if b := publishes(t, s, false); b != without {
			t.Errorf("%x: %x, not %x", other, b, without)
		}
		b := publishes(t, s, true)
		seen[b.Once]++
		tried++
		b.Once = [32]byte{}
		if b != without {
			t.Errorf("%x: %x, not %x", other, b, without)
		}
	}
	// 8 and 9 are one secret: X25519 clears the lowest bit.
	if len(seen) != tried-1 {
		t.Errorf("%d keys of %d", len(seen), tried)
	}
}

// Of another secret, its own public key is another one, and nothing else but what is signed.
func TestP18_1PublishEachSecret(t *testing.T) {
	d := drawnBy(11)
	s := d.secrets()
	for _, once := range []bool{false, true} {
		b := publishes(t, s, once)
		other := s
		other.ID = d.array()
		c := publishes(t, other, once)
		if c.ID == b.ID || c.Pre != b.Pre || c.Once != b.Once || c.Sign != b.Sign || c.Sig != b.Sig {
			t.Errorf("another ID: %x, not as %x", c, b)
		}
		other = s
		other.Pre = d.array()
		c = publishes(t, other, once)
		if c.ID != b.ID || c.Pre == b.Pre || c.Once != b.Once || c.Sign != b.Sign || c.Sig == b.Sig {
			t.Errorf("another Pre: %x, not as %x", c, b)
		}
		other = s
		other.Sign = d.array()
		c = publishes(t, other, once)
		if c.ID != b.ID || c.Pre != b.Pre || c.Once != b.Once || c.Sign == b.Sign || c.Sig == b.Sig {
			t.Errorf("another Sign: %x, not as %x", c, b)
		}
	}
}

// Bits that X25519 clears or sets make no other bundle; of the seed, each bit counts.
func TestP18_1PublishBits(t *testing.T) {
	b := publishes(t, Secrets{}, true)
	for _, other := range [][32]byte{{1}, {7}, {31: 64}, {31: 128}, {7, 31: 192}} {
		if c := publishes(t, Secrets{ID: other, Pre: other, Once: other}, true); c != b {
			t.Errorf("%x: %x, not %x", other, c, b)
		}
		if c := publishes(t, Secrets{Sign: other}, true); c.Sign == b.Sign || c.Sig == b.Sig {
			t.Errorf("a seed %x: %x", other, c)
		}
	}
}

// What is published is of layers 7 and 8.
func TestP18_1PublishLayers(t *testing.T) {
	for _, s := range several(20) {
		b := Publish(s, true)
		if b.ID != xdh.Public(s.ID) || b.Pre != xdh.Public(s.Pre) || b.Once != xdh.Public(s.Once) || b.Sign != eddsa.Public(s.Sign) {
			t.Errorf("%x: %x", s, b)
		}
		if e := eddsa.Verify(b.Sign, b.Pre[:], b.Sig); e != api.OK {
			t.Errorf("%x: %v", s, e)
		}
	}
}

func TestP18_1PublishDrawn(t *testing.T) {
	d := drawnBy(12)
	for range 300 {
		publishes(t, d.secrets(), d.once())
	}
}
