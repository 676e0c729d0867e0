package sha2

// Hash takes the bytes of a SHA-256 piece by piece.
type Hash struct {
	state  [8]uint32
	rest   [block256]byte // its first length modulo block256 bytes are no whole block yet
	length uint64
}

// New answers a Hash that has taken nothing.
func New() *Hash {
	return &Hash{state: start256}
}

// Write takes b behind what was taken so far.
func (h *Hash) Write(b []byte) {
	if h == nil {
		return
	}
	for len(b) > 0 {
		n := copy(h.rest[h.length%block256:], b)
		h.length += uint64(n)
		b = b[n:]
		if h.length%block256 == 0 {
			h.state = take256(h.state, h.rest)
		}
	}
}

// Sum answers the SHA-256 of all that was taken, and changes nothing.
func (h *Hash) Sum() [32]byte {
	if h == nil {
		return [32]byte{}
	}
	// The padding goes into a copy: more may be written behind this call.
	end := *h
	end.Write(padding(h.length, block256, 8))
	return bytes256(end.state)
}

// Len answers how many bytes were taken.
func (h *Hash) Len() uint64 {
	if h == nil {
		return 0
	}
	return h.length
}

// Copy answers another Hash that has taken the same.
func (h *Hash) Copy() *Hash {
	if h == nil {
		return nil
	}
	other := *h
	return &other
}
