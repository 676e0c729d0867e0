package seipd

import (
	"slices"

	"postilion/api"
	"postilion/ocb"
	"postilion/sha2"
)

// How many bytes the key has, the beginning of nonces, and a tag.
const (
	keyBytes   = 32
	startBytes = 7
	tagBytes   = 16
)

// A run goes from chunk to chunk: the key, what nonces begin with, the info, and how many chunks and plain bytes it has come past.
type run struct {
	key, start, info []byte
	chunks, plain    uint64
}

// begin answers the run ahead of the first chunk.
func begin(session [32]byte, h head) *run {
	info := h.info()
	b := sha2.Derive(h.salt[:], session[:], info, keyBytes+startBytes)
	return &run{key: b[:keyBytes], start: b[keyBytes:], info: info}
}

// nonce answers that of the next chunk.
func (r *run) nonce() []byte {
	return slices.Concat(r.start, eight(r.chunks))
}

// past moves on behind a chunk of n plain bytes.
func (r *run) past(n int) {
	r.chunks++
	r.plain += uint64(n)
}

// seal answers the next chunk sealed.
func (r *run) seal(chunk []byte) []byte {
	// Key and nonce have numbers of bytes that layer 3 takes, so that Seal has no error.
	b, _ := ocb.Seal(r.key, r.nonce(), r.info, chunk)
	r.past(len(chunk))
	return b
}

// open answers the bytes of the next chunk; ErrAuth, if nothing is sealed so.
func (r *run) open(sealed []byte) ([]byte, api.Errno) {
	b, e := ocb.Open(r.key, r.nonce(), r.info, sealed)
	// A chunk of no bytes is never made: what is behind the last chunk's bytes is the last tag.
	if e != api.OK || len(b) == 0 {
		return nil, api.ErrAuth
	}
	r.past(len(b))
	return b, api.OK
}

// openAll answers the bytes of all chunks, of so many bytes each, and asks for the last tag behind them; ErrAuth, if nothing is sealed so.
func (r *run) openAll(sealed []byte, chunk int) ([]byte, api.Errno) {
	last := len(sealed) - tagBytes
	if last < 0 {
		return nil, api.ErrAuth
	}
	var plain []byte
	for piece := range slices.Chunk(sealed[:last], chunk+tagBytes) {
		b, e := r.open(piece)
		if e != api.OK {
			return nil, e
		}
		plain = append(plain, b...)
	}
	if !slices.Equal(r.end(), sealed[last:]) {
		return nil, api.ErrAuth
	}
	return plain, api.OK
}

// end answers the last tag, by which nothing can be cut off: it vouches for how many bytes there are.
func (r *run) end() []byte {
	b, _ := ocb.Seal(r.key, r.nonce(), slices.Concat(r.info, eight(r.plain)), nil)
	return b
}

// eight answers a number's eight bytes.
func eight(n uint64) []byte {
	b := make([]byte, 8)
	for i := range b {
		b[i] = byte(n >> (56 - 8*i))
	}
	return b
}
