package armor

import (
	"encoding/base64"
	"math/rand/v2"
	"regexp"
	"strings"
	"testing"

	"postilion/api"
)

// model is what is read as armor, in one expression: lines of base64 of up to 19 times four signs, of which base64 is asked afterwards.
var model = regexp.MustCompile(`\A-----BEGIN PGP (MESSAGE|PUBLIC KEY BLOCK|SIGNATURE)-----\r?\n` +
	`(?:[A-Za-z]+: [^\n]*\n)*` +
	`\r?\n` +
	`((?:(?:[A-Za-z0-9+/=]{4}){1,19}\r?\n)*)` +
	`(?:=([A-Za-z0-9+/]{4})\r?\n)?` +
	`-----END PGP (MESSAGE|PUBLIC KEY BLOCK|SIGNATURE)-----(?:\r?\n)?\z`)

func modelled(s string) (string, []byte, api.Errno) {
	m := model.FindStringSubmatch(s)
	if m == nil || m[1] != m[4] {
		return "", nil, api.ErrForm
	}
	b, ok := unbase64Model(strings.NewReplacer("\r", "", "\n", "").Replace(m[2]))
	if !ok {
		return "", nil, api.ErrForm
	}
	if m[3] != "" {
		sum, _ := base64.StdEncoding.DecodeString(m[3])
		if want := remainder(b); len(sum) != 3 || uint32(sum[0])<<16|uint32(sum[1])<<8|uint32(sum[2]) != want {
			return "", nil, api.ErrForm
		}
	}
	if len(b) > 20000 {
		return "", nil, api.ErrLong
	}
	return m[1], b, api.OK
}

// asModelled holds Decode to the model, and tells what both answer.
func asModelled(t *testing.T, s string) api.Errno {
	t.Helper()
	k, b, e := Decode(s)
	if kind, want, code := modelled(s); e != code || k != kind || string(b) != string(want) {
		t.Fatalf("%d bytes %q: %q, %d bytes %x, %v, not %q, %d bytes %x, %v", len(s), short(s), k, len(b), short(b), e, kind, len(want), short(want), code)
	}
	return e
}

// A draw draws bytes and armor, the same ones each time.
type draw struct {
	*rand.Rand
}

func drawn(seed uint64) draw {
	return draw{rand.New(rand.NewPCG(seed, 12))}
}

func (x draw) bytes(n int) []byte {
	b := make([]byte, n)
	for i := range b {
		b[i] = byte(x.Uint32())
	}
	return b
}

// of answers one of the texts.
func (x draw) of(list ...string) string {
	return list[x.IntN(len(list))]
}

// end answers an end of a line.
func (x draw) end() string {
	return x.of("\n", "\n", "\r\n")
}

// header answers a line ahead of the empty one.
func (x draw) header() string {
	return x.of("A", "Version", "zZ", "Comment") + ": " + x.of("", "1", " ", "a: b", "-----END PGP MESSAGE-----", "\xff")
}

// armor answers an armor of the bytes in whatever form it may have.
func (x draw) armor(kind string, b []byte) string {
	s := first(kind) + x.end()
	for range x.IntN(4) {
		s += x.header() + x.end()
	}
	s += x.end()
	for body := base64.StdEncoding.EncodeToString(b); body != ""; {
		n := min(4*(1+x.IntN(19)), len(body))
		s += body[:n] + x.end()
		body = body[n:]
	}
	if x.IntN(2) == 0 {
		s += sumOf(b) + x.end()
	}
	return s + last(kind) + x.of("", "\n", "\r\n")
}

// spoiled answers the text with something of it left out, put in or put elsewhere.
func (x draw) spoiled(s string) string {
	if s == "" {
		return x.of("=", "A", "\n")
	}
	at := x.IntN(len(s))
	to := at + x.IntN(min(len(s)-at, 8)+1)
	switch x.IntN(6) {
	case 0:
		return s[:at] + s[to:]
	case 1:
		return s[:to] + s[at:]
	case 2:
		return s[:at]
	case 3:
		return s[:at] + string(x.bytes(1)) + s[min(at+1, len(s)):]
	}
	piece := x.of("=", "==", "A", "AAAA", "/", "\n", "\r\n", "\r", " ", ":", ": ", "A: b\n", "-", "-----", "\n\n", "=twTO\n", "=\n", "MESSAGE", "SIGNATURE")
	if x.IntN(3) == 0 {
		// At the end of a line, where a whole line may be read.
		at = strings.IndexByte(s[at:], '\n') + 1 + at
	}
	return s[:at] + piece + s[at:]
}

func TestP12_1ModelDrawn(t *testing.T) {
	x := drawn(1)
	counts := make([]int, api.ErrExists+1)
	for range 6000 {
		kind := x.of(kinds()...)
		b := x.bytes(x.IntN(150))
		s := x.armor(kind, b)
		decodes(t, s, kind, b)
		asModelled(t, s)
		for range 12 {
			counts[asModelled(t, x.spoiled(s))]++
		}
		counts[asModelled(t, x.spoiled(x.spoiled(s)))]++
	}
	if counts[api.OK] < 500 || counts[api.ErrForm] < 500 {
		t.Errorf("what was drawn asks too little: %v", counts)
	}
}

// Bytes of about MaxPacket.
func TestP12_1ModelLong(t *testing.T) {
	x := drawn(2)
	counts := make([]int, api.ErrExists+1)
	for range 120 {
		b := x.bytes(api.MaxPacket - 5 + x.IntN(12))
		s := x.armor("MESSAGE", b)
		counts[asModelled(t, s)]++
		counts[asModelled(t, x.spoiled(s))]++
	}
	if counts[api.OK] < 10 || counts[api.ErrForm] < 10 || counts[api.ErrLong] < 10 {
		t.Errorf("what was drawn asks too little: %v", counts)
	}
}

// Texts of whole lines, in whatever order.
func TestP12_1ModelLines(t *testing.T) {
	x := drawn(3)
	counts := make([]int, api.ErrExists+1)
	full := strings.Repeat("AAAA", 19)
	for range 60000 {
		s := x.of("", "", "", "\n", "A: b\n")
		if x.IntN(8) > 0 {
			s = first("MESSAGE") + "\n"
		}
		for range x.IntN(6) {
			s += x.of("", "", "", "A: b", "A: ", "aGVs", "aGVs", "aA==", "aGU=", "aA=", "=twTO", "=Ic8C", sumOf([]byte("hel")), sumOf([]byte("h")), full, full+"A", full+"AAAA", last("MESSAGE"), first("MESSAGE")) + x.end()
		}
		if x.IntN(8) > 0 {
			s += last("MESSAGE") + x.of("", "\n", "\r\n")
		}
		counts[asModelled(t, s)]++
	}
	if counts[api.OK] < 500 || counts[api.ErrForm] < 500 {
		t.Errorf("what was drawn asks too little: %v", counts)
	}
}

// Whatever bytes, and whatever signs, are base64 or not as the model says.
func TestP12_1ModelBase64(t *testing.T) {
	x := drawn(4)
	read := 0
	for range 200000 {
		s := Base64(x.bytes(x.IntN(12)))
		if x.IntN(3) > 0 && s != "" {
			s = x.spoiled(s)
		}
		if holdsTo(t, s) {
			read++
		}
		holdsTo(t, string(x.bytes(x.IntN(9))))
	}
	if read < 10000 || read > 190000 {
		t.Errorf("of what was drawn %d are read", read)
	}
}
