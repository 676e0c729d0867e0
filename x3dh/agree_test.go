package x3dh

import (
	"testing"

	"postilion/api"
	"postilion/xdh"
)

// agree holds that Answer tells what Start told of the published bundle, and answers it.
func agree(t *testing.T, s Secrets, once bool, id, drawn [32]byte) [32]byte {
	t.Helper()
	x, e := Start(id, drawn, Publish(s, once))
	y, f := Answer(s, once, xdh.Public(id), xdh.Public(drawn))
	if e != api.OK || f != api.OK || x != y || x == [32]byte{} {
		t.Errorf("%x, once %v, %x and %x: %x, %v and %x, %v", s, once, id, drawn, x, e, y, f)
	}
	return x
}

func TestP18_2Agree(t *testing.T) {
	t.Parallel()
	for i, s := range several(20) {
		for j, id := range arrays(2) {
			drawn := arrays(6)[(i+j)%12]
			without, with := agree(t, s, false, id, drawn), agree(t, s, true, id, drawn)
			if without == with {
				t.Errorf("%x, %x and %x: %x with Once and without", s, id, drawn, with)
			}
		}
	}
}

// Each two have a secret of their own, each time.
func TestP18_2OthersOther(t *testing.T) {
	d := drawnBy(40)
	seen, tried := map[[32]byte]int{}, 0
	ids, all := [][32]byte{d.array(), d.array(), d.array()}, []Secrets{d.secrets(), d.secrets(), d.secrets()}
	for _, id := range ids {
		for _, s := range all {
			for range 3 {
				drawn := d.array()
				seen[agree(t, s, false, id, drawn)]++
				seen[agree(t, s, true, id, drawn)]++
				tried += 2
			}
		}
	}
	if len(seen) != tried {
		t.Errorf("%d secrets of %d", len(seen), tried)
	}
}

// Who has another secret, or takes another Once, or another side for who started, is told another one.
func TestP18_2NobodyElse(t *testing.T) {
	d := drawnBy(41)
	s, id, drawn := d.secrets(), d.array(), d.array()
	theirs, public := xdh.Public(id), xdh.Public(drawn)
	for _, once := range []bool{false, true} {
		x := agree(t, s, once, id, drawn)
		for i := range 3 {
			other := s
			*[]*[32]byte{&other.ID, &other.Pre, &other.Once}[i] = d.array()
			y, e := Answer(other, once, theirs, public)
			if e != api.OK || (y == x) != (i == 2 && !once) {
				t.Errorf("once %v, another secret %d: %x, %v", once, i, y, e)
			}
		}
		for _, c := range [][2][32]byte{{public, theirs}, {theirs, theirs}, {xdh.Public(d.array()), public}, {theirs, xdh.Public(d.array())}} {
			if y, e := Answer(s, once, c[0], c[1]); e != api.OK || y == x {
				t.Errorf("once %v, of %x: %x, %v", once, c, y, e)
			}
		}
		if y, e := Answer(s, !once, theirs, public); e != api.OK || y == x {
			t.Errorf("once %v: %x, %v", !once, y, e)
		}
	}
}

// A bundle whose ID or Once somebody changed tells another secret than Answer does; one whose Once was taken out, the one without.
func TestP18_2ChangedBundle(t *testing.T) {
	d := drawnBy(42)
	s, id, drawn := d.secrets(), d.array(), d.array()
	without, with := agree(t, s, false, id, drawn), agree(t, s, true, id, drawn)
	b := Publish(s, true)
	for _, change := range []func(*Bundle){
		func(b *Bundle) { b.ID = xdh.Public(d.array()) },
		func(b *Bundle) { b.Once = xdh.Public(d.array()) },
		func(b *Bundle) { b.ID, b.Once = b.Once, b.ID },
	} {
		c := b
		change(&c)
		if x, e := Start(id, drawn, c); e != api.OK || x == with || x == without {
			t.Errorf("%x: %x, %v", c, x, e)
		}
	}
	b.Once = [32]byte{}
	if x, e := Start(id, drawn, b); e != api.OK || x != without {
		t.Errorf("%x, %v, not %x", x, e, without)
	}
}

// With public keys whose highest bit is set on the way, the two agree nevertheless.
func TestP18_2HighestBit(t *testing.T) {
	d := drawnBy(43)
	for range 20 {
		s, once, id, drawn := d.secrets(), d.once(), d.array(), d.array()
		want := agree(t, s, once, id, drawn)
		b := Publish(s, once)
		b.ID = high(b.ID)
		if once {
			b.Once = high(b.Once)
		}
		x, e := Start(id, drawn, b)
		y, f := Answer(s, once, high(xdh.Public(id)), high(xdh.Public(drawn)))
		if x != want || y != want || e != api.OK || f != api.OK {
			t.Errorf("%x, %v and %x, %v, not %x", x, e, y, f, want)
		}
	}
}

func TestP18_2Drawn(t *testing.T) {
	t.Parallel()
	d := drawnBy(44)
	for range 300 {
		agree(t, d.secrets(), d.once(), d.array(), d.array())
	}
}
