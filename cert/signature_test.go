package cert

import (
	"bytes"
	"testing"

	"postilion/api"
)

// signs holds that Signature answers what the model does, byte by byte, and that Check answers its time.
func signs(t *testing.T, k api.Key, kind byte, time uint32, salt, signer [32]byte, what []byte) []byte {
	t.Helper()
	b := Signature(k, kind, time, salt, signer, what)
	want := modelledSignature(k, kind, time, salt, signer, what).body()
	if len(b) != 152 || !bytes.Equal(b, want) {
		t.Errorf("type %d, time %d, of %d bytes: %x, not %x", kind, time, len(what), b, want)
	}
	question{modelledSign(k), signer, b, kind, what}.holds(t, time)
	return b
}

// A signature's bytes, written out.
func TestP14_1SignatureKnown(t *testing.T) {
	k := drawn(4).key()
	signer, salt := [32]byte([]byte("a fingerprint of thirty-two byte")), [32]byte([]byte("a salt, which has as many of the"))
	b := signs(t, k, 0, 0x01020304, salt, signer, []byte("hello"))
	const start = "\x06\x00\x1b\x0a\x00\x00\x00\x29\x05\x02\x01\x02\x03\x04\x22\x21\x06a fingerprint of thirty-two byte\x00\x00\x00\x00"
	if string(b[:53]) != start {
		t.Errorf("%x, not %x", b[:53], start)
	}
	if string(b[55:88]) != "\x20a salt, which has as many of the" {
		t.Errorf("%x behind the hash's bytes", b[55:88])
	}
	if other := signs(t, k, 0x1f, 0x01020304, salt, signer, []byte("hello")); other[1] != 0x1f || bytes.Equal(other[53:55], b[53:55]) || bytes.Equal(other[88:], b[88:]) {
		t.Errorf("%x, and of another type %x", b, other)
	}
}

func TestP14_1SignatureEachType(t *testing.T) {
	k := drawn(5).key()
	seen := map[string]int{}
	for kind := range 256 {
		seen[string(signs(t, k, byte(kind), 77, [32]byte{1}, [32]byte{2}, []byte("what"))[88:])]++
	}
	if len(seen) != 256 {
		t.Errorf("%d signatures of 256 types", len(seen))
	}
}

func TestP14_1SignatureTimesSaltsSigners(t *testing.T) {
	t.Parallel()
	k := drawn(6).key()
	seen, tried := map[string]int{}, 0
	for _, time := range times() {
		for _, salt := range salts() {
			for _, signer := range salts() {
				seen[string(signs(t, k, 24, time, salt, signer, []byte("what"))[88:])]++
				tried++
			}
		}
	}
	if len(seen) != tried {
		t.Errorf("%d signatures of %d", len(seen), tried)
	}
}

// The signer is what is said, be it a fingerprint of k or none.
func TestP14_1SignatureKeys(t *testing.T) {
	for _, k := range keys(10) {
		for _, signer := range [][32]byte{Of(k, 3).Prints[0], Of(k, 3).Prints[1], {}} {
			signs(t, k, 31, 3, [32]byte{7}, signer, []byte("what"))
		}
	}
	// What is sealed for has no part in it.
	k := drawn(7).key()
	one, other := k, k
	other.Box = [32]byte{1}
	if !bytes.Equal(signs(t, one, 0, 1, [32]byte{}, [32]byte{}, nil), signs(t, other, 0, 1, [32]byte{}, [32]byte{}, nil)) {
		t.Error("the secret of what is sealed for is in the signature")
	}
}

// What is signed has no bytes, or each number of them, or many.
func TestP14_1SignatureSizes(t *testing.T) {
	k := drawn(8).key()
	none, empty := signs(t, k, 0, 1, [32]byte{1}, [32]byte{2}, nil), signs(t, k, 0, 1, [32]byte{1}, [32]byte{2}, []byte{})
	if !bytes.Equal(none, empty) {
		t.Errorf("%x of nil, %x of no bytes", none, empty)
	}
	seen, tried := map[string]int{}, 0
	for n := range 300 {
		seen[string(signs(t, k, 0, 1, [32]byte{1}, [32]byte{2}, filled(n))[88:])]++
		tried++
	}
	for _, n := range []int{2400, 65536, 1<<20 + 1} {
		seen[string(signs(t, k, 0, 1, [32]byte{1}, [32]byte{2}, filled(n))[88:])]++
		tried++
	}
	if len(seen) != tried {
		t.Errorf("%d signatures of %d", len(seen), tried)
	}
}

func TestP14_1SignatureDrawn(t *testing.T) {
	d := drawn(9)
	for range 300 {
		signs(t, d.key(), byte(d.Uint32()), d.Uint32(), d.array(), d.array(), d.bytes(d.IntN(500)))
	}
}
