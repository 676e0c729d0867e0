package cert

import (
	"bytes"
	"slices"

	"postilion/sha2"
)

// The algorithms of a certificate's keys: Ed25519 and X25519.
const (
	algorithmSign = 27
	algorithmBox  = 25
)

// Where a key packet's body has its time and its public key, and how many bytes it has.
const (
	timeAt   = 1
	publicAt = 10
	keyBytes = 42
)

// hashedKey is the first byte of a key packet's hashed form.
const hashedKey = 155

// Fingerprint answers the fingerprint of the key packet with this body.
func Fingerprint(body []byte) [32]byte {
	return sha2.Sum256(hashedForm(body))
}

// KeyPacket answers a key packet's body.
func KeyPacket(time uint32, algorithm byte, public [32]byte) []byte {
	return slices.Concat([]byte{version}, four(time), []byte{algorithm}, four(uint32(len(public))), public[:])
}

// hashedForm answers the hashed form of the key packet with this body.
func hashedForm(body []byte) []byte {
	return slices.Concat([]byte{hashedKey}, four(uint32(len(body))), body)
}

// readKey answers what the body of a key packet of this algorithm says, and whether it is one: what it says must be written as the same bytes.
func readKey(body []byte, algorithm byte) (uint32, [32]byte, bool) {
	if len(body) != keyBytes {
		return 0, [32]byte{}, false
	}
	time, public := number(body[timeAt:]), [32]byte(body[publicAt:])
	if !bytes.Equal(body, KeyPacket(time, algorithm, public)) {
		return 0, [32]byte{}, false
	}
	return time, public, true
}

// four answers a number's four bytes.
func four(n uint32) []byte {
	return []byte{byte(n >> 24), byte(n >> 16), byte(n >> 8), byte(n)}
}

// number answers the number of the first four bytes.
func number(b []byte) uint32 {
	return uint32(b[0])<<24 | uint32(b[1])<<16 | uint32(b[2])<<8 | uint32(b[3])
}
