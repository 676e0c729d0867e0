package ocb

import "slices"

// walk is an offset on its way from block to block.
type walk struct {
	masks
	offset [size]byte
	blocks uint // the whole ones that it has come to
}

// goTo moves the offset on to the next part: a whole block, or what is left behind them.
func (w *walk) goTo(part []byte) {
	if len(part) < size {
		w.offset = xored(w.offset, w.star)
		return
	}
	w.blocks++
	w.offset = xored(w.offset, w.step(w.blocks))
}

// through seals or opens text in its place; cipher is what goes on whole blocks, AES or AES undone.
func (w *walk) through(text []byte, cipher func([size]byte) [size]byte) {
	for part := range slices.Chunk(text, size) {
		w.goTo(part)
		if len(part) < size {
			pad := w.encrypt(w.offset)
			for i := range part {
				part[i] ^= pad[i]
			}
			continue
		}
		b := xored(cipher(xored([size]byte(part), w.offset)), w.offset)
		copy(part, b[:])
	}
}

// tag answers the tag of associated bytes and of plain ones, through which the offset has gone.
func (w *walk) tag(ad, plain []byte) [size]byte {
	end := xored(w.offset, w.dollar)
	return xored(w.encrypt(xored(sum(plain), end)), w.hash(ad))
}

// sum answers the exclusive or of the parts of plain.
func sum(plain []byte) [size]byte {
	var s [size]byte
	for part := range slices.Chunk(plain, size) {
		s = xored(s, padded(part))
	}
	return s
}

// hash answers the HASH of associated bytes.
func (m masks) hash(ad []byte) [size]byte {
	w := walk{masks: m}
	var h [size]byte
	for part := range slices.Chunk(ad, size) {
		w.goTo(part)
		h = xored(h, m.encrypt(xored(padded(part), w.offset)))
	}
	return h
}

// padded answers a part as a block: behind what is no whole one stand 128 and noughts.
func padded(part []byte) [size]byte {
	var b [size]byte
	copy(b[:], part)
	if len(part) < size {
		b[len(part)] = 128
	}
	return b
}
