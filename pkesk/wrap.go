package pkesk

import (
	"slices"

	"postilion/aes"
	"postilion/api"
	"postilion/sha2"
)

// info keeps keys that are derived here apart from all others of the same secret.
const info = "OpenPGP X25519"

// How many bytes a session key has, the same wrapped, and what it is wrapped under.
const (
	sessionBytes = 32
	wrappedBytes = 40
	keyBytes     = 16
)

// wrapKey answers what a session key is wrapped under. Both public keys go in as they stand, so that nobody can put others in their place.
func wrapKey(public, receiver, shared [32]byte) [keyBytes]byte {
	secret := slices.Concat(public[:], receiver[:], shared[:])
	return [keyBytes]byte(sha2.Derive(nil, secret, []byte(info), keyBytes))
}

// wrap answers a session key wrapped.
func wrap(key [keyBytes]byte, session [sessionBytes]byte) [wrappedBytes]byte {
	// Both have numbers of bytes that layer 2 takes, so that Wrap has no error.
	b, _ := aes.Wrap(key[:], session[:])
	return [wrappedBytes]byte(b)
}

// unwrap answers the session key that is wrapped so; ErrAuth, if nothing is, or not as many bytes as a session key has.
func unwrap(key [keyBytes]byte, wrapped []byte) ([sessionBytes]byte, api.Errno) {
	b, e := aes.Unwrap(key[:], wrapped)
	if e != api.OK || len(b) != sessionBytes {
		return [sessionBytes]byte{}, api.ErrAuth
	}
	return [sessionBytes]byte(b), api.OK
}
