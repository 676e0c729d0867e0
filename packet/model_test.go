package packet

import (
	"math/rand/v2"
	"slices"
	"testing"

	"postilion/api"
)

// A model takes bytes one at a time, and knows at each of them what it asks for next: so an error is met where it stands.
type model struct {
	list   []api.Packet
	next   func(c byte) api.Errno
	whole  bool // nothing more need come
	tag    int
	parts  int // partial lengths so far
	left   int // bytes of the body, or of this part of it
	number int
	digits int // bytes of the number that are still to come
}

func modelled(b []byte) ([]api.Packet, api.Errno) {
	m := &model{whole: true}
	m.next = m.first
	for _, c := range b {
		if e := m.next(c); e != api.OK {
			return nil, e
		}
	}
	if !m.whole {
		return nil, api.ErrForm
	}
	return m.list, api.OK
}

// first takes a packet's first byte.
func (m *model) first(c byte) api.Errno {
	if c < 128 || c == 192 || c < 132 {
		return api.ErrForm
	}
	m.whole, m.parts, m.tag, m.number = false, 0, int(c)-192, 0
	m.next = m.length
	if c < 192 {
		m.tag = (int(c) - 128) / 4
		m.digits = []int{1, 2, 4, 0}[c%4]
		m.next = m.digit
	}
	m.list = append(m.list, api.Packet{Tag: m.tag})
	if c < 192 && c%4 == 3 {
		m.whole, m.next = true, m.onAndOn
	}
	return api.OK
}

// onAndOn takes a byte of a body that goes to the end.
func (m *model) onAndOn(c byte) api.Errno {
	m.add(c)
	if m.size() > 20000 {
		return api.ErrLong
	}
	return api.OK
}

// length takes the first byte of a length.
func (m *model) length(c byte) api.Errno {
	m.number = 0
	switch {
	case c <= 191:
		return m.means(int(c))
	case c <= 223:
		m.number, m.next = int(c)-192, m.second
		return api.OK
	case c == 255:
		m.digits, m.next = 4, m.digit
		return api.OK
	}
	m.parts++
	if !slices.Contains(parted(), m.tag) || m.parts == 1 && c < 224+9 {
		return api.ErrForm
	}
	n := 1
	for range c - 224 {
		n *= 2
	}
	e := m.means(n)
	m.next = m.partByte
	return e
}

// second takes the other byte of a length of two.
func (m *model) second(c byte) api.Errno {
	return m.means(256*m.number + int(c) + 192)
}

// digit takes a byte of a number.
func (m *model) digit(c byte) api.Errno {
	m.number = 256*m.number + int(c)
	m.digits--
	if m.digits == 0 {
		return m.means(m.number)
	}
	return api.OK
}

// means goes on to so many bytes, which are the last ones of the packet unless its caller says otherwise.
func (m *model) means(n int) api.Errno {
	if m.size()+n > 20000 {
		return api.ErrLong
	}
	m.left, m.next = n, m.lastByte
	if n == 0 {
		m.whole, m.next = true, m.first
	}
	return api.OK
}

// partByte takes a byte of a part behind which another one comes.
func (m *model) partByte(c byte) api.Errno {
	m.add(c)
	m.left--
	if m.left == 0 {
		m.next = m.length
	}
	return api.OK
}

// lastByte takes a byte of a last part.
func (m *model) lastByte(c byte) api.Errno {
	m.add(c)
	m.left--
	if m.left == 0 {
		m.whole, m.next = true, m.first
	}
	return api.OK
}

func (m *model) add(c byte) {
	p := &m.list[len(m.list)-1]
	p.Body = append(p.Body, c)
}

func (m *model) size() int {
	return len(m.list[len(m.list)-1].Body)
}

// asModelled holds Parse to the model, and tells what both answer.
func asModelled(t *testing.T, b []byte) ([]api.Packet, api.Errno) {
	t.Helper()
	list, e := Parse(b)
	if want, code := modelled(b); e != code || !same(list, want) {
		t.Fatalf("%d bytes %x: %d packets, %v, not %d, %v", len(b), short(b), len(list), e, len(want), code)
	}
	return list, e
}

// Each string of up to two bytes, and each of five of those bytes at which a form begins or ends.
func TestP11_1ModelEach(t *testing.T) {
	for c := range 256 {
		asModelled(t, []byte{byte(c)})
		for d := range 256 {
			asModelled(t, []byte{byte(c), byte(d)})
		}
	}
	edges := []byte{0, 1, 2, 127, 128, 131, 132, 133, 134, 135, 191, 192, 193, 200, 203, 223, 224, 233, 254, 255}
	b := make([]byte, 5)
	for n := range 20 * 20 * 20 * 20 * 20 {
		for i := range b {
			b[i] = edges[n%20]
			n /= 20
		}
		asModelled(t, b)
	}
}

// A draw draws packets and bytes, the same ones each time.
type draw struct {
	*rand.Rand
}

func drawn(seed uint64) draw {
	return draw{rand.New(rand.NewPCG(seed, 11))}
}

// bytes answers n of them, of which many begin something.
func (x draw) bytes(n int) []byte {
	b := make([]byte, n)
	for i := range b {
		b[i] = byte(x.Uint32())
		if x.IntN(3) == 0 {
			b[i] = []byte{0, 1, 2, 128, 136, 192, 194, 203, 224, 233, 237, 255}[x.IntN(12)]
		}
	}
	return b
}

// size answers a body's, often one at which a form begins or ends.
func (x draw) size() int {
	edges := []int{0, 1, 191, 192, 255, 256, 511, 512, 8383, 8384, 19999, 20000}
	switch x.IntN(8) {
	case 0:
		return edges[x.IntN(len(edges))]
	case 1:
		return x.IntN(20001)
	}
	return x.IntN(40)
}

// packet answers one and its bytes, in whatever form it may have.
func (x draw) packet() (api.Packet, []byte) {
	p := api.Packet{Tag: 1 + x.IntN(63), Body: x.bytes(x.size())}
	switch x.IntN(4) {
	case 0:
		p.Tag = 1 + x.IntN(15)
		bytes := []int{2, 4}[x.IntN(2)]
		if len(p.Body) < 256 && x.IntN(2) == 0 {
			bytes = 1
		}
		return p, legacyOf(p.Tag, bytes, p.Body)
	case 1:
		p.Tag = parted()[x.IntN(4)]
		return p, x.parts(p)
	case 2:
		return p, join([]byte{byte(192 + p.Tag)}, lasting(uint32(len(p.Body))), p.Body)
	}
	return p, join([]byte{byte(192 + p.Tag)}, Length(len(p.Body)), p.Body)
}

// parts answers the packet's bytes, its body in parts if it is long enough for that.
func (x draw) parts(p api.Packet) []byte {
	b, left := []byte{byte(192 + p.Tag)}, p.Body
	for least := 9; len(left) >= 1<<least && x.IntN(9) > 0; least = 0 {
		power := least
		for power < 14 && len(left) >= 2<<power && x.IntN(4) > 0 {
			power++
		}
		b = join(b, []byte{byte(224 + power)}, left[:1<<power])
		left = left[1<<power:]
	}
	return join(b, Length(len(left)), left)
}

// stream answers up to n packets and their bytes; the last one may go to the end.
func (x draw) stream(n int) ([]api.Packet, []byte) {
	var list []api.Packet
	var all []byte
	for range x.IntN(n + 1) {
		p, b := x.packet()
		list, all = append(list, p), append(all, b...)
	}
	if x.IntN(4) == 0 {
		p := api.Packet{Tag: 1 + x.IntN(15), Body: x.bytes(x.size())}
		list, all = append(list, p), append(all, toTheEnd(p.Tag, p.Body)...)
	}
	return list, all
}

func TestP11_1ModelDrawn(t *testing.T) {
	x := drawn(1)
	for range 200000 {
		asModelled(t, x.bytes(x.IntN(40)))
	}
}

// Whole packets of all forms; and the same bytes, cut off, or with some of them changed, which is most often in a length.
func TestP11_1ModelStreams(t *testing.T) {
	x := drawn(2)
	counts := make([]int, api.ErrExists+1)
	for range 4000 {
		list, b := x.stream(5)
		parses(t, b, list...)
		asModelled(t, b)
		if len(b) == 0 {
			continue
		}
		asModelled(t, b[:x.IntN(len(b))])
		for range 4 {
			c := slices.Clone(b)
			for range 1 + x.IntN(3) {
				copy(c[x.IntN(min(len(c), 8)):], x.bytes(1))
				copy(c[x.IntN(len(c)):], x.bytes(1))
			}
			_, e := asModelled(t, c)
			counts[e]++
		}
	}
	if counts[api.OK] < 100 || counts[api.ErrForm] < 100 || counts[api.ErrLong] < 100 {
		t.Errorf("what was drawn asks too little: %v", counts)
	}
}
