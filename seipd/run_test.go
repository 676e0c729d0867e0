package seipd

import (
	"bytes"
	"math"
	"testing"

	"postilion/api"
)

// Numbers of eight bytes, in each of them; through Seal and Open no more than the lowest ones are met.
func TestP16_1Eight(t *testing.T) {
	for n, want := range map[uint64]string{
		0: "0000000000000000", 1: "0000000000000001", 255: "00000000000000ff", 256: "0000000000000100", 65536: "0000000000010000",
		0x0102030405060708: "0102030405060708", 1 << 63: "8000000000000000", math.MaxUint64: "ffffffffffffffff",
	} {
		if b := eight(n); !bytes.Equal(b, unhex(t, want)) {
			t.Errorf("%d: %x, not %s", n, b, want)
		}
	}
}

// Chunks far behind the first one, and last tags of far more bytes, are the model's.
func TestP16_1RunFar(t *testing.T) {
	d := drawnBy(50)
	for _, far := range []int{1, 255, 256, 1 << 16, 1<<24 - 1, 1 << 32, 1 << 40, 1 << 56, math.MaxInt64 - 100} {
		session, salt, plain := d.array(), d.array(), d.bytes(70)
		m := modelledHead(session[:], []byte{2, 9, 2, 0}, salt[:], 32)
		for range 2 {
			r := begin(session, head{salt: salt})
			r.chunks, r.plain = uint64(far), uint64(far)
			b, last := r.seal(plain), r.end()
			if !bytes.Equal(b, m.chunk(far, plain)) || !bytes.Equal(last, m.tag(far+1, far+70)) {
				t.Errorf("%d: %x, %x", far, b, last)
			}
			r.chunks, r.plain = uint64(far), uint64(far)
			if back, e := r.open(b); e != api.OK || !bytes.Equal(back, plain) || !bytes.Equal(r.end(), last) {
				t.Errorf("%d: %x, %v", far, back, e)
			}
		}
	}
}

// What doesn't open moves the run no further.
func TestP16_1RunStays(t *testing.T) {
	r := begin([32]byte{1}, head{})
	for _, b := range [][]byte{nil, {}, make([]byte, 15), make([]byte, 16), make([]byte, 80), begin([32]byte{1}, head{}).seal(nil)} {
		if back, e := r.open(b); e != api.ErrAuth || len(back) != 0 || r.chunks != 0 || r.plain != 0 {
			t.Errorf("%x: %x, %v", b, back, e)
		}
	}
}
