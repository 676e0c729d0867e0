package seipd

import (
	"bytes"
	"crypto/hkdf"
	"crypto/sha256"
	"encoding/binary"
	"slices"
	"testing"

	"postilion/api"
)

// with answers the pieces of the body with other chunks.
func (m modelled) with(chunks ...[]byte) modelled {
	m.chunks = chunks
	return m
}

// counts are numbers of bytes of four and of five chunks: the last one whole, or not.
var counts = []int{256, 250, 257, 320}

func TestP16_1OpenChunkLeftOut(t *testing.T) {
	for _, n := range counts {
		m, session, plain := right(n)
		for i := range m.chunks {
			for j := i + 1; j <= len(m.chunks); j++ {
				other := m.with(slices.Delete(slices.Clone(m.chunks), i, j)...)
				refuses(t, session, other.body(), api.ErrAuth)
				// With a last tag of the bytes that are left it is a body, if those that are left out were the last ones.
				left := len(plain) - min(64*j, n) + 64*i
				other.last = m.tag(len(other.chunks), left)
				if j == len(m.chunks) {
					opens(t, session, other.body(), plain[:left])
				} else {
					refuses(t, session, other.body(), api.ErrAuth)
				}
			}
		}
	}
}

func TestP16_1OpenChunkTwice(t *testing.T) {
	for _, n := range counts {
		m, session, _ := right(n)
		for i := range m.chunks {
			for j := range len(m.chunks) + 1 {
				other := m.with(slices.Insert(slices.Clone(m.chunks), j, m.chunks[i])...)
				refuses(t, session, other.body(), api.ErrAuth)
				other.last = m.tag(len(other.chunks), n+len(m.chunks[i])-16)
				refuses(t, session, other.body(), api.ErrAuth)
			}
		}
	}
}

func TestP16_1OpenOtherOrder(t *testing.T) {
	for _, n := range counts {
		m, session, _ := right(n)
		for i := range m.chunks {
			for j := range i {
				chunks := slices.Clone(m.chunks)
				chunks[i], chunks[j] = chunks[j], chunks[i]
				refuses(t, session, m.with(chunks...).body(), api.ErrAuth)
				// Alike they may be: what is sealed in each one's place isn't.
				chunks[j] = chunks[i]
				refuses(t, session, m.with(chunks...).body(), api.ErrAuth)
			}
		}
		turned := slices.Clone(m.chunks)
		slices.Reverse(turned)
		refuses(t, session, m.with(turned...).body(), api.ErrAuth)
	}
}

// Chunks of another body: of another salt, or session key, or in chunks of another size.
func TestP16_1OpenOthersChunks(t *testing.T) {
	m, session, plain := right(256)
	salt := [32]byte(m.salt)
	for i := range m.chunks {
		for _, other := range []modelled{
			modelledSeal(session, [32]byte{1}, 0, plain), modelledSeal([32]byte{1}, salt, 0, plain), modelledHead(session[:], []byte{2, 9, 2, 1}, m.salt, 32),
		} {
			chunks := slices.Clone(m.chunks)
			chunks[i] = other.chunk(i, plain[64*i:64*i+64])
			refuses(t, session, m.with(chunks...).body(), api.ErrAuth)
		}
		// Of the same salt and session key it is sealed so, too.
		chunks, mixed := slices.Clone(m.chunks), slices.Clone(plain)
		clear(mixed[64*i : 64*i+64])
		chunks[i] = m.chunk(i, make([]byte, 64))
		opens(t, session, m.with(chunks...).body(), mixed)
	}
}

// Without the last tag, with it alone, and with it twice.
func TestP16_1OpenLastTag(t *testing.T) {
	for _, n := range append([]int{1, 16, 63, 64, 65, 128}, counts...) {
		m, session, _ := right(n)
		without := m
		without.last = nil
		refuses(t, session, without.body(), api.ErrAuth)
		refuses(t, session, m.with().body(), api.ErrAuth)
		twice := m
		twice.last = slices.Concat(m.last, m.last)
		refuses(t, session, twice.body(), api.ErrAuth)
		first := without
		first.chunks = append([][]byte{m.last}, m.chunks...)
		refuses(t, session, first.body(), api.ErrAuth)
	}
	m, session, _ := right(0)
	opens(t, session, m.body(), nil)
	m.last = nil
	refuses(t, session, m.body(), api.ErrAuth)
}

// A last tag of another number, of another number of bytes, or of bytes.
func TestP16_1OpenOtherLastTags(t *testing.T) {
	for _, n := range append([]int{0, 1, 64, 65, 128}, counts...) {
		m, session, plain := right(n)
		k := len(m.chunks)
		for _, number := range []int{0, 1, k - 1, k, k + 1, k + 256, n, -1} {
			for _, all := range []int{0, n - 1, n, n + 1, n + 16*k, n + 256, n + 1<<32, 8 * n, k, len(m.body()), -1} {
				m.last = m.tag(number, all)
				if number == k && all == n {
					opens(t, session, m.body(), plain)
				} else {
					refuses(t, session, m.body(), api.ErrAuth)
				}
			}
		}
		little := binary.LittleEndian.AppendUint64(slices.Clone(m.info), uint64(n))
		for _, ad := range [][]byte{
			nil, m.info, slices.Concat(eightOf(n), m.info), eightOf(n), slices.Concat(m.info, eightOf(k), eightOf(n)),
			slices.Concat(m.info, eightOf(n)[1:]), slices.Concat(m.info, eightOf(n)[4:]), slices.Concat(m.info, eightOf(n), []byte{0}), little,
		} {
			if bytes.Equal(ad, slices.Concat(m.info, eightOf(n))) {
				continue // of no bytes the number is the same from both ends
			}
			m.last = m.book.seal(m.nonce(k), ad, nil)
			refuses(t, session, m.body(), api.ErrAuth)
		}
		m.last = m.book.seal(m.nonce(k), slices.Concat(m.info, eightOf(n)), []byte{0})
		refuses(t, session, m.body(), api.ErrAuth)
	}
}

// A chunk of no bytes is none: behind others, between, or alone, with a last tag that goes on behind it.
func TestP16_1OpenChunkOfNoBytes(t *testing.T) {
	for _, n := range append([]int{0, 1, 64, 128}, counts...) {
		m, session, plain := right(n)
		for i := range len(m.chunks) + 1 {
			other := m.with(slices.Clone(m.chunks[:i])...)
			other.chunks = append(other.chunks, m.chunk(i, nil))
			for j := i; j < len(m.chunks); j++ {
				other.chunks = append(other.chunks, m.chunk(j+1, plain[64*j:min(64*j+64, n)]))
			}
			for _, last := range [][]byte{m.last, m.tag(len(other.chunks), n)} {
				other.last = last
				refuses(t, session, other.body(), api.ErrAuth)
			}
		}
	}
}

// A chunk that isn't the last one is whole, and none is longer.
func TestP16_1OpenOtherParts(t *testing.T) {
	m, session, plain := right(192)
	sealed := func(sizes ...int) []byte {
		other, rest := m.with(), plain
		for i, n := range sizes {
			other.chunks = append(other.chunks, m.chunk(i, rest[:n]))
			rest = rest[n:]
		}
		other.last = m.tag(len(sizes), len(plain)-len(rest))
		return other.body()
	}
	opens(t, session, sealed(64, 64, 64), plain)
	opens(t, session, sealed(64, 64, 63), plain[:191])
	opens(t, session, sealed(64, 1), plain[:65])
	for _, sizes := range [][]int{
		{65}, {128}, {192}, {63, 1}, {1, 64}, {64, 65}, {64, 63, 64}, {63, 64, 64}, {32, 32}, {64, 128}, {128, 64}, {1, 1, 1}, {48, 64}, {80}, {64, 80}, {48, 16},
	} {
		refuses(t, session, sealed(sizes...), api.ErrAuth)
	}
}

// Chunks that are sealed in another way than the chapter's: by another info, other nonces, or another key.
func TestP16_1OpenOtherWays(t *testing.T) {
	m, session, plain := right(100)
	salt := [32]byte(m.salt)
	again := func(change func(*modelled)) {
		t.Helper()
		other := m
		change(&other)
		other.chunks = [][]byte{other.chunk(0, plain[:64]), other.chunk(1, plain[64:])}
		other.last = other.tag(2, 100)
		refuses(t, session, other.body(), api.ErrAuth)
	}
	for _, info := range [][]byte{
		nil, {2, 9, 2, 0}, {18, 2, 9, 2, 0}, {0xd4, 2, 9, 2, 0}, {0x92, 2, 9, 2, 0}, {0xd2, 1, 9, 2, 0}, {0xd2, 2, 9, 2, 6}, {0xd2, 2, 9, 2}, {0xd2, 2, 9, 2, 0, 0},
		slices.Concat(m.info, m.salt), slices.Concat(m.info, eightOf(0)),
	} {
		again(func(other *modelled) { other.info = info })
	}
	for i := range 7 {
		again(func(other *modelled) {
			other.start = slices.Clone(m.start)
			other.start[i] ^= 1
		})
	}
	derived := func(secret, salt []byte, info string, at, n int) func(*modelled) {
		b, err := hkdf.Key(sha256.New, secret, salt, info, n)
		if err != nil {
			t.Fatal(err)
		}
		return func(other *modelled) { other.book, other.start = newBook(b[at:at+32]), append(b[at+32:], b...)[:7] }
	}
	chapters := m
	derived(session[:], m.salt, string(m.info), 0, 39)(&chapters)
	chapters.chunks = [][]byte{chapters.chunk(0, plain[:64]), chapters.chunk(1, plain[64:])}
	opens(t, session, chapters.body(), plain)
	again(derived(session[:], nil, string(m.info), 0, 39))
	again(derived(m.salt, session[:], string(m.info), 0, 39))
	again(derived(slices.Concat(m.salt, session[:]), nil, string(m.info), 0, 39))
	again(derived(session[:], m.salt, "", 0, 39))
	again(derived(session[:], m.salt, string(m.info[1:]), 0, 39))
	again(derived(session[:], m.salt, string(m.info), 7, 39))
	again(derived(session[:], m.salt, string(m.info), 0, 32))
	again(func(other *modelled) { other.book = newBook(session[:]) })
	again(func(other *modelled) { other.book = newBook(salt[:]) })
}
