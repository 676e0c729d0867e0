package seipd

import (
	"slices"
	"testing"

	"postilion/api"
)

// A flaw is one that a question of Open may have.
type flaw struct {
	name  string
	want  api.Errno
	apply func(body *[]byte, session *[32]byte)
}

// flaws answers some, in the order in which they are asked for.
func flaws() []flaw {
	at := func(i int) func(*[]byte, *[32]byte) {
		return func(body *[]byte, _ *[32]byte) { (*body)[i] ^= 16 }
	}
	cut := func(n int) func(*[]byte, *[32]byte) {
		return func(body *[]byte, _ *[32]byte) { *body = (*body)[:min(n, len(*body))] }
	}
	return []flaw{
		{"too short", api.ErrForm, cut(35)},
		{"version", api.ErrForm, at(0)},
		{"the first algorithm", api.ErrKind, at(1)},
		{"the second algorithm", api.ErrKind, at(2)},
		{"the chunks' size", api.ErrKind, at(3)},
		{"salt", api.ErrAuth, at(4)},
		{"session key", api.ErrAuth, func(_ *[]byte, session *[32]byte) { session[31]++ }},
		{"the first chunk", api.ErrAuth, at(36)},
		{"the second chunk", api.ErrAuth, at(120)},
		{"the last tag", api.ErrAuth, func(body *[]byte, _ *[32]byte) { (*body)[len(*body)-1]++ }},
		{"long", api.ErrAuth, func(body *[]byte, _ *[32]byte) { *body = append(*body, 0) }},
		{"no last tag", api.ErrAuth, func(body *[]byte, _ *[32]byte) { *body = (*body)[:len(*body)-16] }},
		{"cut within a chunk", api.ErrAuth, cut(130)},
	}
}

// Each two flaws at once: the one that is asked for first is told.
func TestP16_1OpenWhichComesFirst(t *testing.T) {
	all := flaws()
	for i, first := range all {
		for _, second := range all[i:] {
			m, session, _ := right(100)
			body := m.body()
			second.apply(&body, &session)
			if first.name != second.name {
				first.apply(&body, &session)
			}
			if e := asModelled(t, session, body); e != first.want {
				t.Errorf("%s and %s: %v, not %v", first.name, second.name, e, first.want)
			}
		}
	}
}

// Drawn bodies, in which some bytes are others, or chunks at other places, are what the model says.
func TestP16_1OpenDrawn(t *testing.T) {
	t.Parallel()
	d := drawnBy(30)
	told := map[api.Errno]int{}
	for range 4000 {
		session, c := d.array(), d.IntN(3)
		plain := d.bytes(d.IntN(6<<(c+6)) >> (c + 4) << (c + 4))
		m := modelledSeal(session, d.array(), c, plain)
		switch d.IntN(9) {
		case 0:
			d.Shuffle(len(m.chunks), func(i, j int) { m.chunks[i], m.chunks[j] = m.chunks[j], m.chunks[i] })
		case 1:
			m.chunks = m.chunks[:d.IntN(len(m.chunks)+1)]
			m.last = m.tag(len(m.chunks), len(slices.Concat(m.chunks...))-16*len(m.chunks))
		case 2:
			m.chunks = append(m.chunks, m.chunk(len(m.chunks), d.bytes(d.IntN(3))))
			m.last = m.tag(len(m.chunks), len(slices.Concat(m.chunks...))-16*len(m.chunks))
		case 3:
			m.head = slices.Clone(m.head)
			m.head[d.IntN(4)] = byte(d.IntN(20))
		case 4:
			m.last = nil
		}
		b := m.body()
		for range d.IntN(6) / 4 {
			b[d.IntN(len(b))] ^= byte(1 << d.IntN(8))
		}
		if d.IntN(10) == 0 {
			b = b[:d.IntN(len(b))]
		}
		told[asModelled(t, session, b)]++
	}
	for _, e := range []api.Errno{api.OK, api.ErrForm, api.ErrKind, api.ErrAuth} {
		if told[e] < 100 {
			t.Errorf("%v: told %d times", e, told[e])
		}
	}
	if len(told) != 4 {
		t.Errorf("%v", told)
	}
}

// Whatever comes in is what the model says.
func FuzzP16_1(f *testing.F) {
	m, session, _ := right(100)
	f.Add(m.body(), session[:])
	f.Add(m.body()[:52], session[:])
	m, session, _ = right(0)
	f.Add(m.body(), session[:])
	f.Fuzz(func(t *testing.T, body, key []byte) {
		var session [32]byte
		copy(session[:], key)
		asModelled(t, session, body)
	})
}
