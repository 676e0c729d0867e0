package cert

import (
	"bytes"
	"encoding/hex"
	"slices"
	"testing"

	"postilion/api"
)

func TestP14_1FingerprintKnown(t *testing.T) {
	// The SHA-256 of 155 and four noughts.
	const want = "360882dcc08c61afd0a999f96bc4851c4000ea82c3e6d019ffc064967aab3ab2"
	for _, body := range [][]byte{nil, {}, make([]byte, 0, 9)} {
		if sum := Fingerprint(body); sum != modelledPrint(nil) || hex.EncodeToString(sum[:]) != want {
			t.Errorf("of no bytes: %x, not %s", sum, want)
		}
	}
}

// Bodies of each number of bytes, and of so many that each of the length's four bytes counts.
func TestP14_1FingerprintSizes(t *testing.T) {
	sizes := []int{65535, 65536, 65537, 1<<24 - 1, 1 << 24, 1<<24 + 0x010203}
	for n := range 600 {
		sizes = append(sizes, n)
	}
	seen := map[[32]byte]int{}
	for _, n := range sizes {
		body := filled(n)
		sum := Fingerprint(body)
		if sum != modelledPrint(body) {
			t.Errorf("%d bytes: %x, not %x", n, sum, modelledPrint(body))
		}
		seen[sum]++
	}
	if len(seen) != len(sizes) {
		t.Errorf("%d fingerprints of %d bodies", len(seen), len(sizes))
	}
}

// It is any body's, a key's or not: each bit of it makes another one.
func TestP14_1FingerprintOthers(t *testing.T) {
	body := KeyPacket(5, 27, full())
	seen := map[[32]byte]int{Fingerprint(body): 1}
	for bit := range 8 * len(body) {
		other := slices.Clone(body)
		other[bit/8] ^= 1 << (bit % 8)
		sum := Fingerprint(other)
		if sum != modelledPrint(other) {
			t.Errorf("%x: %x", other, sum)
		}
		seen[sum]++
	}
	if len(seen) != 1+8*42 {
		t.Errorf("%d fingerprints", len(seen))
	}
}

// The chapter's example, and each algorithm, byte by byte.
func TestP14_1KeyPacket(t *testing.T) {
	for _, public := range salts() {
		for _, time := range times() {
			for algorithm := range 256 {
				b := KeyPacket(time, byte(algorithm), public)
				want := modelledKey(time, byte(algorithm), public)
				if len(b) != 42 || !bytes.Equal(b, want) {
					t.Errorf("%d, %d: %x, not %x", time, algorithm, b, want)
				}
			}
		}
	}
}

func TestP14_1KeyPacketKnown(t *testing.T) {
	public := [32]byte([]byte("the bytes of a public key, as is"))
	for want, b := range map[string][]byte{
		"\x06\x00\x00\x00\x00\x1b\x00\x00\x00\x20" + string(public[:]): KeyPacket(0, 27, public),
		"\x06\xff\xff\xff\xff\x19\x00\x00\x00\x20" + string(public[:]): KeyPacket(4294967295, 25, public),
		"\x06\x01\x02\x03\x04\x00\x00\x00\x00\x20" + string(public[:]): KeyPacket(0x01020304, 0, public),
		"\x06\x80\x00\x00\x00\xff\x00\x00\x00\x20" + string(public[:]): KeyPacket(1<<31, 255, public),
	} {
		if string(b) != want {
			t.Errorf("%x, not %x", b, want)
		}
	}
}

func TestP14_1Of(t *testing.T) {
	for _, k := range keys(20) {
		for _, time := range times() {
			c := Of(k, time)
			if want := modelledOf(k, time); c != want {
				t.Errorf("%x, %d: %x, not %x", k, time, c, want)
			}
			if c.Prints != [2][32]byte{Fingerprint(KeyPacket(time, 27, c.Sign)), Fingerprint(KeyPacket(time, 25, c.Box))} {
				t.Errorf("%x, %d: %x aren't those of its key packets", k, time, c.Prints)
			}
		}
	}
}

// Each half of the key makes one public key alone, and the time both fingerprints.
func TestP14_1OfOthers(t *testing.T) {
	k := drawn(3).key()
	c := Of(k, 9)
	sign := Of(api.Key{Sign: [32]byte{1}, Box: k.Box}, 9)
	if sign.Sign == c.Sign || sign.Prints[0] == c.Prints[0] || sign.Box != c.Box || sign.Prints[1] != c.Prints[1] {
		t.Errorf("another seed: %x, and %x", sign, c)
	}
	box := Of(api.Key{Sign: k.Sign, Box: [32]byte{1}}, 9)
	if box.Box == c.Box || box.Prints[1] == c.Prints[1] || box.Sign != c.Sign || box.Prints[0] != c.Prints[0] {
		t.Errorf("another secret: %x, and %x", box, c)
	}
	later := Of(k, 10)
	if later.Sign != c.Sign || later.Box != c.Box || later.Prints[0] == c.Prints[0] || later.Prints[1] == c.Prints[1] {
		t.Errorf("another time: %x, and %x", later, c)
	}
}
