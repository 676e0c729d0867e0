package armor

import (
	"slices"
	"strings"
	"testing"
)

func TestP12_1SumKnown(t *testing.T) {
	for s, want := range map[string]uint32{
		"":          0xb704ce,
		"\x00":      0x6169d3,
		"123456789": 0x21cf02,
	} {
		if sum := Sum([]byte(s)); sum != want {
			t.Errorf("%q: %06x, not %06x", s, sum, want)
		}
	}
	if sum := Sum([]byte{}); sum != 0xb704ce {
		t.Errorf("no bytes: %06x", sum)
	}
}

// remainder answers the sum as a long division of polynomials leaves it: of the bytes with 24 noughts behind them, the start put in at the highest 24 bits.
func remainder(b []byte) uint32 {
	dividend := append(slices.Clone(b), 0, 0, 0)
	for i, c := range []byte{0xb7, 0x04, 0xce} {
		dividend[i] ^= c
	}
	var rest uint32
	for _, c := range dividend {
		for bit := 7; bit >= 0; bit-- {
			rest = 2*rest + uint32(c>>bit&1)
			if rest >= 1<<24 {
				rest ^= 0x1864cfb
			}
		}
	}
	return rest
}

func sums(t *testing.T, b []byte) {
	t.Helper()
	if sum, want := Sum(b), remainder(b); sum != want {
		t.Errorf("%d bytes %x: %06x, not %06x", len(b), short(b), sum, want)
	}
}

func TestP12_1SumEach(t *testing.T) {
	for c := range 256 {
		sums(t, []byte{byte(c)})
		for d := range 256 {
			sums(t, []byte{byte(c), byte(d)})
		}
	}
}

func TestP12_1SumMany(t *testing.T) {
	for n := range 300 {
		sums(t, filled(n))
		sums(t, make([]byte, n))
		sums(t, []byte(strings.Repeat("\xff", n)))
	}
	sums(t, filled(5000))
}

// A sum stays below 24 bits, whatever the bytes, and so many of them as no armor has.
func TestP12_1SumOfMore(t *testing.T) {
	sum := uint32(0xb704ce)
	b := filled(100000)
	for i := range b {
		if s := Sum(b[i : i+1]); s >= 1<<24 {
			t.Fatalf("%x: %x", b[i], s)
		}
	}
	// Byte by byte, with the table that RFC 9580's readers often have.
	for _, c := range b {
		sum = sum<<8&0xffffff ^ remainderOf(byte(sum>>16)^c)
	}
	if s := Sum(b); s != sum {
		t.Errorf("%06x, not %06x", s, sum)
	}
}

// remainderOf answers what one byte, with 24 noughts behind it, leaves of the division.
func remainderOf(c byte) uint32 {
	return remainder([]byte{c}) ^ remainder([]byte{0})
}
