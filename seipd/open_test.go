package seipd

import (
	"bytes"
	"slices"
	"testing"

	"postilion/api"
)

// right answers what n bytes are sealed as, in chunks of 64, the session key, and the bytes.
func right(n int) (modelled, [32]byte, []byte) {
	d := drawnBy(20)
	session, plain := d.array(), sample(n)
	return modelledSeal(session, d.array(), 0, plain), session, plain
}

func TestP16_1OpenHolds(t *testing.T) {
	plain := sample(150)
	for _, session := range arrays(10) {
		for _, salt := range arrays(10) {
			for _, n := range []int{0, 1, 64, 150} {
				opens(t, session, modelledSeal(session, salt, 0, plain[:n]).body(), plain[:n])
			}
		}
	}
	for n := range 400 {
		m, session, plain := right(n)
		opens(t, session, m.body(), plain)
	}
}

// Each c, beside the end of each chunk; also of more bytes than Seal takes.
func TestP16_1OpenEachC(t *testing.T) {
	t.Parallel()
	d := drawnBy(21)
	for c := range 11 {
		for _, n := range append(edges(1<<(c+6), 300000), 9999, 10000, 10001, 19999, 20000, 20001) {
			session, plain := d.array(), d.bytes(n)
			opens(t, session, modelledSeal(session, d.array(), c, plain).body(), plain)
		}
	}
}

// So many chunks that their numbers have three bytes.
func TestP16_1OpenManyChunks(t *testing.T) {
	if testing.Short() {
		t.Skip("seals 4 million bytes")
	}
	t.Parallel()
	m, session, plain := right(64*65537 + 5)
	b := m.body()
	opens(t, session, b, plain)
	// The chunks 0 and 256, and 1 and 65537, have each other's last byte.
	for _, pair := range [][2]int{{0, 256}, {1, 65537}} {
		other := m
		other.chunks = slices.Clone(m.chunks)
		other.chunks[pair[0]], other.chunks[pair[1]] = m.chunks[pair[1]], m.chunks[pair[0]]
		refuses(t, session, other.body(), api.ErrAuth)
	}
	refuses(t, session, b[:len(b)-1], api.ErrAuth)
	b[len(b)-1]++
	refuses(t, session, b, api.ErrAuth)
}

// Fewer than 36 bytes, of none, nil or not; whatever they are.
func TestP16_1OpenShort(t *testing.T) {
	m, session, _ := right(100)
	b := m.body()
	for n := range 36 {
		refuses(t, session, b[:n], api.ErrForm)
		refuses(t, session, b[len(b)-n:], api.ErrForm)
		refuses(t, session, make([]byte, n), api.ErrForm)
		refuses(t, session, bytes.Repeat([]byte{2}, n), api.ErrForm)
		refuses(t, session, append([]byte{2, 9, 1, 99}, make([]byte, 31)...)[:n], api.ErrForm)
	}
	refuses(t, session, nil, api.ErrForm)
	refuses(t, session, []byte{}, api.ErrForm)
	// As many are a head, with nothing behind it.
	refuses(t, session, b[:36], api.ErrAuth)
	refuses(t, session, append([]byte{2, 9, 1}, make([]byte, 33)...), api.ErrKind)
}

// Another first byte is told ahead of all that is wrong behind it.
func TestP16_1OpenVersions(t *testing.T) {
	for _, n := range []int{0, 1, 64, 100} {
		m, session, plain := right(n)
		for version := range 256 {
			b := m.body()
			b[0] = byte(version)
			if version == 2 {
				opens(t, session, b, plain)
				continue
			}
			refuses(t, session, b, api.ErrForm)
			b[1], b[2], b[3] = byte(version), 0, 255
			refuses(t, session, b, api.ErrForm)
			refuses(t, session, b[:36], api.ErrForm)
		}
	}
}

// Other algorithms than 9 and 2, and a c above MaxChunk, are told ahead of what doesn't open; another c that is one is told as that.
func TestP16_1OpenKinds(t *testing.T) {
	for _, n := range []int{0, 1, 64, 100} {
		m, session, plain := right(n)
		for x := range 256 {
			for at := 1; at <= 3; at++ {
				b := m.body()
				want := api.ErrKind
				switch {
				case b[at] == byte(x):
					opens(t, session, b, plain)
					continue
				case at == 3 && x <= 10:
					want = api.ErrAuth
				}
				b[at] = byte(x)
				refuses(t, session, b, want)
				refuses(t, session, b[:36], want)
				refuses(t, session, append(b, 0), want)
				refuses(t, [32]byte{}, b, want)
			}
		}
	}
}

// Other algorithms and sizes of chunks are of another kind also where something is sealed so.
func TestP16_1OpenOtherKinds(t *testing.T) {
	session, salt, plain := [32]byte{1}, [32]byte{2}, sample(100)
	for _, head := range [][]byte{
		{2, 9, 1, 0}, {2, 9, 3, 0}, {2, 9, 0, 0}, {2, 8, 2, 0}, {2, 7, 2, 0}, {2, 10, 2, 0}, {2, 2, 9, 0}, {2, 9, 2, 11}, {2, 9, 2, 16}, {2, 9, 2, 255},
	} {
		m := modelledHead(session[:], head, salt[:], 32)
		m.chunks = [][]byte{m.chunk(0, plain)}
		m.last = m.tag(1, len(plain))
		refuses(t, session, m.body(), api.ErrKind)
	}
	for _, head := range [][]byte{{1, 9, 2, 0}, {3, 9, 2, 0}, {0, 9, 2, 0}, {6, 9, 2, 0}} {
		m := modelledHead(session[:], head, salt[:], 32)
		m.chunks = [][]byte{m.chunk(0, plain[:64]), m.chunk(1, plain[64:])}
		m.last = m.tag(2, len(plain))
		refuses(t, session, m.body(), api.ErrForm)
	}
}

// Each single byte another one: the salt is held by the key, all behind it by tags.
func TestP16_1OpenEachByte(t *testing.T) {
	t.Parallel()
	for _, n := range []int{0, 1, 16, 63, 64, 65, 128, 150} {
		m, session, _ := right(n)
		body := m.body()
		for i := range body {
			for d := 1; d < 256; d++ {
				if d&(d-1) != 0 && d != 255 && i >= 4 {
					continue
				}
				b := slices.Clone(body)
				b[i] ^= byte(d)
				want := api.ErrAuth
				switch {
				case i == 0:
					want = api.ErrForm
				case i < 3 || i == 3 && d > 10:
					want = api.ErrKind
				}
				refuses(t, session, b, want)
			}
		}
	}
}

// Cut off anywhere, or with bytes behind it, or ahead.
func TestP16_1OpenCut(t *testing.T) {
	t.Parallel()
	for _, n := range []int{0, 1, 16, 48, 63, 64, 65, 80, 128, 192, 300} {
		m, session, plain := right(n)
		body := m.body()
		opens(t, session, body, plain)
		for cut := range body {
			want := api.ErrAuth
			if cut < 36 {
				want = api.ErrForm
			}
			refuses(t, session, body[:cut], want)
		}
		for more := 1; more < 200; more++ {
			refuses(t, session, append(slices.Clone(body), make([]byte, more)...), api.ErrAuth)
			refuses(t, session, append(slices.Clone(body), body[len(body)-min(more, len(body)):]...), api.ErrAuth)
		}
		for x := range 256 {
			refuses(t, session, append(slices.Clone(body), byte(x)), api.ErrAuth)
		}
		refuses(t, session, append(slices.Clone(body), body...), api.ErrAuth)
		refuses(t, session, body[1:], api.ErrForm)
	}
}

// A byte left out, or put in, anywhere behind the head's settings.
func TestP16_1OpenByteMoreOrLess(t *testing.T) {
	for _, n := range []int{0, 1, 64, 65, 150} {
		m, session, _ := right(n)
		body := m.body()
		for i := 4; i < len(body); i++ {
			refuses(t, session, slices.Delete(slices.Clone(body), i, i+1), api.ErrAuth)
			for _, x := range []byte{0, 255, body[i] + 1} {
				refuses(t, session, slices.Insert(slices.Clone(body), i, x), api.ErrAuth)
			}
		}
	}
}

// Another session key, by each bit, and some others.
func TestP16_1OpenOtherSessions(t *testing.T) {
	for _, n := range []int{0, 1, 64, 150} {
		m, session, _ := right(n)
		body := m.body()
		for bit := range 256 {
			other := session
			other[bit/8] ^= 1 << (bit % 8)
			refuses(t, other, body, api.ErrAuth)
		}
		for _, other := range append(arrays(20), [32]byte(m.salt), [32]byte(body[len(body)-32:])) {
			refuses(t, other, body, api.ErrAuth)
		}
	}
}

// Bytes that were never sealed.
func TestP16_1OpenNothing(t *testing.T) {
	d := drawnBy(22)
	for n := range 400 {
		head := []byte{2, 9, 2, byte(n % 11)}
		refuses(t, d.array(), append(append(head, make([]byte, 32)...), make([]byte, n)...), api.ErrAuth)
		refuses(t, [32]byte{}, slices.Concat(head, bytes.Repeat([]byte{255}, 32+n)), api.ErrAuth)
		refuses(t, d.array(), slices.Concat(head, d.bytes(32+n)), api.ErrAuth)
	}
	refuses(t, [32]byte{}, append([]byte{2, 9, 2, 10}, make([]byte, 1<<18)...), api.ErrAuth)
	refuses(t, [32]byte{}, append([]byte{2, 9, 2, 0}, make([]byte, 1<<18)...), api.ErrAuth)
	refuses(t, [32]byte{}, make([]byte, 1<<18), api.ErrForm)
}

// P16.2: what was sealed is opened, of each number of bytes and of each c.
func TestP16_2There(t *testing.T) {
	t.Parallel()
	d := drawnBy(23)
	for c := range 11 {
		for _, n := range append(edges(1<<(c+6), 10000), 10000) {
			session, plain := d.array(), d.bytes(n)
			b, e := Seal(session, d.array(), c, plain)
			if e != api.OK {
				t.Errorf("c %d, %d bytes: %v", c, n, e)
			}
			opens(t, session, b, plain)
		}
	}
}

func TestP16_2ThereDrawn(t *testing.T) {
	t.Parallel()
	d := drawnBy(24)
	for _, session := range arrays(50) {
		for _, salt := range arrays(2) {
			c := d.IntN(11)
			plain := d.bytes(d.IntN(min(4<<(c+6), 10001)))
			b, e := Seal(session, salt, c, plain)
			if e != api.OK {
				t.Errorf("c %d, %d bytes: %v", c, len(plain), e)
			}
			opens(t, session, b, plain)
		}
	}
}

// Each session key opens what was sealed by it, and nothing else.
func TestP16_2EachItsOwn(t *testing.T) {
	sessions := arrays(6)
	for i, session := range sessions {
		b, _ := Seal(session, [32]byte{9}, 0, sample(i*20))
		for j, other := range sessions {
			if i == j {
				opens(t, other, b, sample(i*20))
			} else {
				refuses(t, other, b, api.ErrAuth)
			}
		}
	}
}
