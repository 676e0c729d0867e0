package s2k

import (
	"bytes"
	"crypto/sha256"
	"slices"
	"testing"

	"postilion/api"
)

const salt = "\x00\x11salt\xfe\xff"

// specifier answers a specifier's bytes.
func specifier(salt string, code byte) []byte {
	return slices.Concat([]byte{3, 8}, []byte(salt), []byte{code})
}

// filled answers n bytes that differ from place to place.
func filled(n int) []byte {
	b := make([]byte, n)
	for i := range b {
		b[i] = byte(i*7 + i/256 + n)
	}
	return b
}

// counted is a code's count, by as many doublings as it says.
func counted(code byte) int {
	n := 16 + int(code)%16
	for range int(code)/16 + 6 {
		n += n
	}
	return n
}

// modelledHash is a hash by the library, of a text that lies there whole.
func modelledHash(i int, text []byte, count int) [32]byte {
	size := max(count, len(text))
	whole := bytes.Repeat(text, size/len(text)+1)[:size]
	return sha256.Sum256(append(make([]byte, i), whole...))
}

// modelled answers what Derive must, question by question.
func modelled(spec, pass []byte, n int) ([]byte, int, api.Errno) {
	if n <= 0 || n >= 65 || len(pass) >= 1001 {
		return nil, 0, api.ErrArg
	}
	if len(spec) == 0 {
		return nil, 0, api.ErrForm
	}
	if spec[0] != 3 {
		return nil, 0, api.ErrKind
	}
	if len(spec) >= 2 && spec[1] != 8 {
		return nil, 0, api.ErrKind
	}
	if len(spec) <= 10 {
		return nil, 0, api.ErrForm
	}
	if counted(spec[10]) > 131072 {
		return nil, 0, api.ErrLong
	}
	text := append(slices.Clone(spec[2:10]), pass...)
	first, second := modelledHash(0, text, counted(spec[10])), modelledHash(1, text, counted(spec[10]))
	return append(first[:], second[:]...)[:n], 11, api.OK
}

// derives holds that the key is what the model says, and answers it.
func derives(t *testing.T, spec, pass []byte, n int) []byte {
	t.Helper()
	want, _, e := modelled(spec, pass, n)
	if e != api.OK {
		t.Fatalf("%x, %d bytes, %d: no key, but %v", spec, len(pass), n, e)
	}
	key, size, e := Derive(spec, pass, n)
	if e != api.OK || size != 11 || len(key) != n || !bytes.Equal(key, want) {
		t.Errorf("%x, %d bytes, %d: %x, %d, %v, not %x, 11", spec, len(pass), n, key, size, e, want)
	}
	return key
}

// refuses holds that this error is told, and nothing beside it.
func refuses(t *testing.T, spec, pass []byte, n int, want api.Errno) {
	t.Helper()
	if key, size, e := Derive(spec, pass, n); e != want || len(key) != 0 || size != 0 {
		t.Errorf("%x, %d bytes, %d: %x, %d, %v, not %v", spec, len(pass), n, key, size, e, want)
	}
}
