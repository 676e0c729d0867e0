package x3dh

import (
	"bytes"

	"postilion/api"
	"postilion/sha2"
	"postilion/xdh"
)

// info keeps keys that are derived here apart from all others of the same secrets.
const info = "postilion x3dh"

// How many bytes a salt and a secret have.
const (
	saltBytes   = 32
	secretBytes = 32
)

// A pair is somebody's secret and somebody else's public key.
type pair struct {
	secret, public [32]byte
}

// firstSecret answers what is derived of all that the pairs share, in their order; ErrForm, if one of them shares nothing.
func firstSecret(pairs []pair) ([32]byte, api.Errno) {
	// Nobody shares 32 bytes 255, so what begins with them is never taken for shared secrets alone.
	input := bytes.Repeat([]byte{255}, secretBytes)
	for _, p := range pairs {
		shared, e := xdh.Shared(p.secret, p.public)
		if e != api.OK {
			return [32]byte{}, api.ErrForm
		}
		input = append(input, shared[:]...)
	}
	return [32]byte(sha2.Derive(make([]byte, saltBytes), input, []byte(info), secretBytes)), api.OK
}
