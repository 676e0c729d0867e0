package seipd

import (
	"bytes"
	"math"
	"testing"

	"postilion/api"
)

// The chapter's example: a body of no bytes has 52; nil or empty, whatever else is.
func TestP16_1SealNoBytes(t *testing.T) {
	for _, session := range arrays(4) {
		for _, salt := range arrays(4) {
			for c := range 11 {
				for _, plain := range [][]byte{nil, {}} {
					if b := seals(t, session, salt, c, plain); len(b) != 52 {
						t.Errorf("%d bytes %x", len(b), b)
					}
				}
			}
		}
	}
}

// Each number of bytes of some chunks: a tag of 16 bytes for each chunk, and one more.
func TestP16_1SealSizes(t *testing.T) {
	d := drawnBy(10)
	session, salt, plain := d.array(), d.array(), d.bytes(400)
	for n := range len(plain) + 1 {
		b := seals(t, session, salt, 0, plain[:n])
		if len(b) != 36+n+16*((n+63)/64)+16 {
			t.Errorf("%d bytes, sealed %d", n, len(b))
		}
	}
	for n := range 300 {
		if b := seals(t, session, salt, 1, plain[:n]); len(b) != 36+n+16*((n+127)/128)+16 {
			t.Errorf("%d bytes, sealed %d", n, len(b))
		}
	}
}

// Each c, and beside the end of each chunk of it: no bytes, one, one less than a chunk, a whole one, one more, several.
func TestP16_1SealEachC(t *testing.T) {
	t.Parallel()
	d := drawnBy(11)
	for c := range 11 {
		for _, n := range append(edges(1<<(c+6), 10000), 9999, 10000) {
			b := seals(t, d.array(), d.array(), c, d.bytes(n))
			if string(b[:4]) != string([]byte{2, 9, 2, byte(c)}) {
				t.Errorf("c %d: %x", c, b[:4])
			}
		}
	}
}

// The same bytes in chunks of another size, or of another session key or salt, are another body.
func TestP16_1SealAllDiffer(t *testing.T) {
	plain := sample(5)
	seen, tried := map[string]int{}, 0
	one := func(session, salt [32]byte, c int) {
		seen[string(seals(t, session, salt, c, plain)[36:])]++
		tried++
	}
	for c := range 11 {
		one([32]byte{}, [32]byte{}, c)
	}
	for bit := range 256 {
		var turned [32]byte
		turned[bit/8] = 1 << (bit % 8)
		one(turned, [32]byte{}, 0)
		one([32]byte{}, turned, 0)
		one(turned, turned, 0)
	}
	if len(seen) != tried {
		t.Errorf("%d sealed so, of %d", len(seen), tried)
	}
}

func TestP16_1SealSessionsAndSalts(t *testing.T) {
	plain := sample(150)
	for _, session := range arrays(20) {
		for _, salt := range arrays(20) {
			if b := seals(t, session, salt, 0, plain); [32]byte(b[4:]) != salt {
				t.Errorf("%x, not %x", b[4:36], salt)
			}
		}
	}
}

// Bytes of one value, of each; what is alike isn't sealed alike.
func TestP16_1SealAlike(t *testing.T) {
	for x := range 256 {
		b := seals(t, [32]byte{1}, [32]byte{2}, 0, bytes.Repeat([]byte{byte(x)}, 192))
		first, second, third := b[36:116], b[116:196], b[196:276]
		if bytes.Equal(first, second) || bytes.Equal(second, third) || bytes.Equal(first, third) {
			t.Errorf("two chunks of %d are alike", x)
		}
	}
}

// No bytes but those of the last chunk depend on how many there are behind them.
func TestP16_1SealBeginnings(t *testing.T) {
	plain := sample(1000)
	long := seals(t, [32]byte{3}, [32]byte{4}, 0, plain)
	for n := range 1000 {
		b := seals(t, [32]byte{3}, [32]byte{4}, 0, plain[:n])
		whole := 36 + n/64*80
		if !bytes.Equal(b[:whole], long[:whole]) {
			t.Errorf("%d bytes: the whole chunks are others", n)
		}
	}
}

// As many bytes as Seal takes, and one less, in chunks of each size; and one more, and far more.
func TestP16_1SealMost(t *testing.T) {
	t.Parallel()
	plain := sample(1 << 17)
	for c := range 11 {
		seals(t, [32]byte{5}, [32]byte{6}, c, plain[:9999])
		seals(t, [32]byte{5}, [32]byte{6}, c, plain[:10000])
		for _, n := range []int{10001, 10002, 10016, 16384, 20000, 20001, 65535, 65536, 65536 + 100, 1 << 17} {
			fails(t, [32]byte{5}, [32]byte{6}, c, plain[:n], api.ErrLong)
		}
	}
}

// A c that isn't one, also if its last byte is: told ahead of how many bytes there are.
func TestP16_1SealOtherCs(t *testing.T) {
	for _, c := range []int{
		-1, -2, -6, -7, -64, -246, -250, -256, math.MinInt8, math.MinInt32, math.MinInt64, math.MinInt64 + 4,
		11, 12, 16, 22, 30, 57, 58, 64, 127, 128, 255, 256, 260, 266, 1 << 16, 1<<32 + 4, math.MaxInt32, math.MaxInt64, math.MaxInt64 - 6,
	} {
		for _, n := range []int{0, 1, 64, 10000, 10001, 20001} {
			fails(t, [32]byte{7}, [32]byte{8}, c, make([]byte, n), api.ErrArg)
		}
		fails(t, [32]byte{}, [32]byte{}, c, nil, api.ErrArg)
	}
}

func TestP16_1SealDrawn(t *testing.T) {
	t.Parallel()
	d := drawnBy(12)
	for range 1000 {
		c := d.IntN(11)
		n := d.IntN(min(4<<(c+6), 10001))
		if d.IntN(3) == 0 {
			n = n >> (c + 6) << (c + 6)
		}
		seals(t, d.array(), d.array(), c, d.bytes(n))
	}
}
