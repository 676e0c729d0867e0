package pgp

import (
	"bytes"
	"slices"

	"postilion/api"
	"postilion/cert"
	"postilion/packet"
)

// The tags of the packets inside.
const (
	tagAnnounced = 4
	tagLiteral   = 11
	tagSignature = 2
)

// ofBody is the type of a signature of bytes as they stand.
const ofBody = 0

// Where an announcement has what differs from one to another, and how many bytes it has.
const (
	saltAt         = 5
	signerAt       = 37
	announcedBytes = 70
)

// literalBytes is how many bytes of a literal stand ahead of its body.
const literalBytes = 6

// signedSaltAt is where the body of layer 14's signature packet has its salt.
const signedSaltAt = 56

// An inside is what a message seals: who will sign, and with which salt; the body; and the signature packet's.
type inside struct {
	salt, signer [32]byte
	body, signed []byte
}

// sign answers the inside of a body that is signed by the key of a certificate of fromTime.
func sign(from api.Key, fromTime, time uint32, salt [32]byte, body []byte) inside {
	signer := cert.Of(from, fromTime).Prints[0]
	return inside{salt: salt, signer: signer, body: body, signed: cert.Signature(from, ofBody, time, salt, signer, body)}
}

// readInside answers what the bytes that a message seals say; packet.Parse's error, or ErrForm, if they are no inside. What is signed, and by whom, isn't asked here.
func readInside(b []byte) (inside, api.Errno) {
	list, e := packet.Parse(b)
	if e != api.OK {
		return inside{}, e
	}
	if !tagged(list, tagAnnounced, tagLiteral, tagSignature) {
		return inside{}, api.ErrForm
	}
	in := inside{signed: list[2].Body}
	if !in.readAnnounced(list[0].Body) || !in.readLiteral(list[1].Body) {
		return inside{}, api.ErrForm
	}
	return in, api.OK
}

// readAnnounced takes the salt and the signer from an announcement, and tells whether it is one: what it says must be written as the same bytes.
func (in *inside) readAnnounced(b []byte) bool {
	if len(b) != announcedBytes {
		return false
	}
	in.salt, in.signer = [32]byte(b[saltAt:]), [32]byte(b[signerAt:])
	return bytes.Equal(b, in.announced())
}

// readLiteral takes the body from a literal, and tells whether it is one: what it says must be written as the same bytes.
func (in *inside) readLiteral(b []byte) bool {
	if len(b) < literalBytes {
		return false
	}
	in.body = b[literalBytes:]
	return bytes.Equal(b, in.literal())
}

// check answers when the body was signed by whom the certificate is of; ErrSig, if somebody else will sign, cert.Check's error, and ErrForm, if another salt was announced.
func (in inside) check(from cert.Cert) (uint32, api.Errno) {
	if in.signer != from.Prints[0] {
		return 0, api.ErrSig
	}
	time, e := cert.Check(from.Sign, from.Prints[0], in.signed, ofBody, in.body)
	if e != api.OK {
		return 0, e
	}
	// Behind Check, since only what it takes has a salt.
	if in.salt != [32]byte(in.signed[signedSaltAt:]) {
		return 0, api.ErrForm
	}
	return time, api.OK
}

// bytes answers the inside's packets as they are written. It is for bodies that Seal takes: with these, all three are packets, so that Write has no error.
func (in inside) bytes() []byte {
	b, _ := packet.Write([]api.Packet{
		{Tag: tagAnnounced, Body: in.announced()},
		{Tag: tagLiteral, Body: in.literal()},
		{Tag: tagSignature, Body: in.signed},
	})
	return b
}

// announced answers the body of the packet that says who will sign: a version 6, of the signature's type, its hash (SHA-512) and its algorithm (Ed25519), with the salt behind the number of its bytes; the last byte says that no other signature is behind it.
func (in inside) announced() []byte {
	return slices.Concat([]byte{6, ofBody, 10, 27, byte(len(in.salt))}, in.salt[:], in.signer[:], []byte{1})
}

// literal answers the literal's body: bytes as they stand, without a name, and of no time.
func (in inside) literal() []byte {
	return append([]byte{'b', 0, 0, 0, 0, 0}, in.body...)
}
