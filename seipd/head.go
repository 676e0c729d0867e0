package seipd

import (
	"slices"

	"postilion/api"
)

// What each body begins with: its version, and the algorithms by which it is sealed.
const (
	version  = 2
	byAES256 = 9
	byOCB    = 2
)

// mark is the byte that stands ahead of the packet: 192 and its tag, 18.
const mark = 210

// Where a head has what differs from one to another, and how many bytes it has.
const (
	chunkAt   = 3
	saltAt    = 4
	headBytes = 36
)

// A head is what differs from one body's beginning to another's: how long the chunks are, and the salt.
type head struct {
	c    byte
	salt [32]byte
}

// readHead answers the head that a body begins with; ErrForm or ErrKind, if there is none.
func readHead(body []byte) (head, api.Errno) {
	if len(body) < headBytes || body[0] != version {
		return head{}, api.ErrForm
	}
	if body[1] != byAES256 || body[2] != byOCB || body[chunkAt] > api.MaxChunk {
		return head{}, api.ErrKind
	}
	return head{c: body[chunkAt], salt: [32]byte(body[saltAt:])}, api.OK
}

// settings answers the head's bytes ahead of the salt.
func (h head) settings() []byte {
	return []byte{version, byAES256, byOCB, h.c}
}

// bytes answers the head as it is written.
func (h head) bytes() []byte {
	return append(h.settings(), h.salt[:]...)
}

// info answers what the key is derived for, and what each chunk vouches for beside its own bytes.
func (h head) info() []byte {
	return slices.Concat([]byte{mark}, h.settings())
}

// chunk answers how many bytes a chunk has, but perhaps the last one.
func (h head) chunk() int {
	return 64 << h.c
}
