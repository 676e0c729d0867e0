package vault

import (
	"bytes"
	"math"

	"postilion/api"
)

// word begins each head, the byte 0 behind it with it.
const word = "vault 1\x00"

// A head is what it tells, and the sector in which it lies.
type head struct {
	sector int
	number uint64
	size   uint64
	area   int
}

// latest answers the head that counts, of the sectors of heads. Without one it answers one of the number 0, which stands where the first keeping doesn't go.
func latest(b []byte, room uint64) head {
	last := head{sector: 1, area: 1}
	for i := range heads {
		h, ok := parse(i, b[i*api.SectorSize:(i+1)*api.SectorSize], room)
		if ok && h.number > last.number {
			last = h
		}
	}
	return last
}

// parse answers the head in a sector, and whether it is one. It is one if its own text is these bytes, so that no byte beside what it tells goes unasked.
func parse(sector int, b []byte, room uint64) (head, bool) {
	h := head{sector: sector, number: join(b[8:16]), size: join(b[16:20]), area: int(b[20])}
	return h, h.number > 0 && h.size <= room && h.area < areas && bytes.Equal(b, h.text())
}

// text answers the sector that tells it.
func (h head) text() []byte {
	b := make([]byte, api.SectorSize)
	copy(b, word)
	split(b[8:16], h.number)
	split(b[16:20], h.size)
	b[20] = byte(h.area)
	return b
}

// next answers the head of what is kept behind it: in the other sector, of the other area.
func (h head) next(size uint64) head {
	n := head{sector: 1 - h.sector, number: h.number + 1, size: size, area: 1 - h.area}
	if h.number == math.MaxUint64 {
		// There is no greater number; of two alike the one in the sector 0 counts, so it goes there, over whatever head that has.
		n.sector, n.number = 0, h.number
	}
	return n
}

// split writes a number, its highest byte first.
func split(b []byte, n uint64) {
	for i := range b {
		b[i] = byte(n >> (8 * (len(b) - 1 - i)))
	}
}

// join reads a number, its highest byte first.
func join(b []byte) uint64 {
	var n uint64
	for _, c := range b {
		n = n<<8 | uint64(c)
	}
	return n
}
