package cert

import (
	"bytes"
	"slices"

	"postilion/api"
	"postilion/eddsa"
	"postilion/sha2"
)

// The algorithm of the hash that is signed: SHA-512.
const bySha512 = 10

// The types of a signature packet's subpackets: its time, and its signer's fingerprint.
const (
	subTime   = 2
	subSigner = 33
)

// Where a signature packet's body has what differs from one to another, and how many bytes it has.
const (
	kindAt         = 1
	signedAt       = 10
	signerAt       = 17
	startAt        = 53
	saltAt         = 56
	sigAt          = 88
	signatureBytes = 152
)

// A signature is what differs from one signature packet to another; start is the hash's first two bytes.
type signature struct {
	kind   byte
	time   uint32
	signer [32]byte
	start  [2]byte
	salt   [32]byte
	sig    [64]byte
}

// Signature answers the body of a signature packet of what, by k.
func Signature(k api.Key, kind byte, time uint32, salt [32]byte, signer [32]byte, what []byte) []byte {
	s := signature{kind: kind, time: time, signer: signer, salt: salt}
	hash := s.hash(what)
	s.start = [2]byte(hash[:])
	s.sig = eddsa.Sign(k.Sign, hash[:])
	return s.body()
}

// Check answers the time of a signature of what; ErrForm, if body is none of that type and signer, and ErrSig, if it isn't right under the public key.
func Check(public [32]byte, signer [32]byte, body []byte, kind byte, what []byte) (uint32, api.Errno) {
	s, ok := readSignature(body)
	if !ok || s.kind != kind || s.signer != signer {
		return 0, api.ErrForm
	}
	hash := s.hash(what)
	// Layer 7's ErrForm, of a public key or of a second half that are none, is as well a signature that isn't verified.
	if s.start != [2]byte(hash[:]) || eddsa.Verify(public, hash[:], s.sig) != api.OK {
		return 0, api.ErrSig
	}
	return s.time, api.OK
}

// readSignature answers what a signature packet's body says, and whether it is one: what it says must be written as the same bytes.
func readSignature(body []byte) (signature, bool) {
	if len(body) != signatureBytes {
		return signature{}, false
	}
	s := signature{
		kind:   body[kindAt],
		time:   number(body[signedAt:]),
		signer: [32]byte(body[signerAt:]),
		start:  [2]byte(body[startAt:]),
		salt:   [32]byte(body[saltAt:]),
		sig:    [64]byte(body[sigAt:]),
	}
	if !bytes.Equal(body, s.body()) {
		return signature{}, false
	}
	return s, true
}

// head answers the packet's bytes up to the end of its subpackets.
func (s signature) head() []byte {
	subpackets := slices.Concat(
		subpacket(subTime, four(s.time)),
		subpacket(subSigner, append([]byte{version}, s.signer[:]...)),
	)
	return slices.Concat([]byte{version, s.kind, algorithmSign, bySha512}, four(uint32(len(subpackets))), subpackets)
}

// body answers the packet's body: behind the head no subpackets that aren't signed, so that their length is 0.
func (s signature) body() []byte {
	return slices.Concat(s.head(), four(0), s.start[:], []byte{byte(len(s.salt))}, s.salt[:], s.sig[:])
}

// hash answers what is signed of what.
func (s signature) hash(what []byte) [64]byte {
	return hashOf(s.salt, what, s.head())
}

// hashOf answers the hash of a salt, of what is signed, and of the packet's head.
func hashOf(salt [32]byte, what, head []byte) [64]byte {
	return sha2.Sum512(slices.Concat(salt[:], what, head, []byte{version, 255}, four(uint32(len(head)))))
}

// subpacket answers a subpacket: its length, its type and its content.
func subpacket(kind byte, content []byte) []byte {
	return append([]byte{byte(1 + len(content)), kind}, content...)
}
