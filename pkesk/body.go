package pkesk

import (
	"bytes"
	"slices"
)

// version is that of packets and of fingerprints alike.
const version = 6

// algorithm is the one of the key that it is for: X25519.
const algorithm = 25

// Where a body has what differs from one to another, and how many bytes it has.
const (
	printAt   = 3
	publicAt  = 36
	wrappedAt = 69
	bodyBytes = 109
)

// A sealed is what differs from one body to another: the fingerprint of the key that it is for, the drawn public key, and the wrapped session key.
type sealed struct {
	print, public [32]byte
	wrapped       [wrappedBytes]byte
}

// body answers the packet's body. A version and a fingerprint go behind the number of their bytes, and so does the wrapped key.
func (s sealed) body() []byte {
	return slices.Concat(
		[]byte{version, byte(1 + len(s.print)), version}, s.print[:],
		[]byte{algorithm}, s.public[:],
		[]byte{byte(len(s.wrapped))}, s.wrapped[:],
	)
}

// readBody answers what a packet's body says, and whether it is one: what it says must be written as the same bytes.
func readBody(body []byte) (sealed, bool) {
	if len(body) != bodyBytes {
		return sealed{}, false
	}
	s := sealed{
		print:   [32]byte(body[printAt:]),
		public:  [32]byte(body[publicAt:]),
		wrapped: [wrappedBytes]byte(body[wrappedAt:]),
	}
	if !bytes.Equal(body, s.body()) {
		return sealed{}, false
	}
	return s, true
}
