package armor

import (
	"encoding/base64"
	"math/bits"
	"strings"
	"testing"

	"postilion/api"
)

// filled answers n bytes that differ from place to place.
func filled(n int) []byte {
	b := make([]byte, n)
	for i := range b {
		b[i] = byte(i*7 + i/256 + n)
	}
	return b
}

// short answers so much of a text as a test's line has room for.
func short[T string | []byte](s T) T {
	return s[:min(len(s), 200)]
}

// inBase64 holds that the text is the bytes' base64, and no other bytes'.
func inBase64(t *testing.T, b []byte, want string) {
	t.Helper()
	if s := Base64(b); s != want {
		t.Errorf("Base64 of %d bytes %x: %q, not %q", len(b), short(b), short(s), short(want))
	}
	if c, e := Unbase64(want); e != api.OK || string(c) != string(b) {
		t.Errorf("Unbase64 of %q: %d bytes %x, %v, not %d bytes %x", short(want), len(c), short(c), e, len(b), short(b))
	}
}

// isNoBase64 holds that the text is no bytes' base64.
func isNoBase64(t *testing.T, s string) {
	t.Helper()
	if b, e := Unbase64(s); e != api.ErrForm || len(b) != 0 {
		t.Errorf("Unbase64 of %q: %x, %v", short(s), short(b), e)
	}
}

func TestP12_1Base64Known(t *testing.T) {
	for b, want := range map[string]string{
		"":                 "",
		"f":                "Zg==",
		"fo":               "Zm8=",
		"foo":              "Zm9v",
		"foob":             "Zm9vYg==",
		"fooba":            "Zm9vYmE=",
		"foobar":           "Zm9vYmFy",
		"hello":            "aGVsbG8=",
		"\x00":             "AA==",
		"\x00\x00":         "AAA=",
		"\x00\x00\x00":     "AAAA",
		"\x00\x00\x00\x00": "AAAAAA==",
		"\xff":             "/w==",
		"\xff\xff":         "//8=",
		"\xff\xff\xff":     "////",
		"\xff\xff\xff\xff": "/////w==",
		"\xfb\xef\xbe":     "++++",
		"\x14\xfb\x9c\x03": "FPucAw==",
		"\x00\x10\x83\x10\x51\x87\x20\x92\x8b\x30\xd3\x8f\x41\x14\x93\x51\x55\x97\x61\x96\x9b\x71\xd7\x9f\x82\x18\xa3\x92\x59\xa7\xa2\x9a\xab\xb2\xdb\xaf\xc3\x1c\xb3\xd3\x5d\xb7\xe3\x9e\xbb\xf3\xdf\xbf": "ABCDEFGHIJKLMNOPQRSTUVWXYZabcdefghijklmnopqrstuvwxyz0123456789+/",
	} {
		inBase64(t, []byte(b), want)
	}
	inBase64(t, nil, "")
}

// Of each number of bytes, in one line however many they are.
func TestP12_1Base64EachSize(t *testing.T) {
	for n := range 700 {
		b := filled(n)
		inBase64(t, b, base64.StdEncoding.EncodeToString(b))
	}
	for _, n := range []int{api.MaxPacket - 1, api.MaxPacket, api.MaxPacket + 1, 1 << 20} {
		b := filled(n)
		inBase64(t, b, base64.StdEncoding.EncodeToString(b))
	}
}

func TestP12_1Base64EachByte(t *testing.T) {
	for c := range 256 {
		for d := range 256 {
			for _, b := range [][]byte{{byte(c)}, {byte(c), byte(d)}, {byte(c), byte(d), byte(c ^ d)}, {byte(d), 255, byte(c), 0}} {
				inBase64(t, b, base64.StdEncoding.EncodeToString(b))
			}
		}
	}
}

// A number of signs that is no multiple of four: texts cut off, with = or without.
func TestP12_1Unbase64Cut(t *testing.T) {
	for n := range 14 {
		for _, c := range []byte{0, 255, 'x'} {
			s := Base64([]byte(strings.Repeat(string(rune(c)), n)))
			for cut := range len(s) {
				if cut%4 != 0 {
					isNoBase64(t, s[:cut])
					isNoBase64(t, s[cut:])
				}
			}
			isNoBase64(t, s+"=")
			isNoBase64(t, s+"A")
			isNoBase64(t, s+"AA")
			isNoBase64(t, s+"AA=")
			isNoBase64(t, s+"AAA")
		}
	}
}

func TestP12_1Unbase64Pads(t *testing.T) {
	for _, s := range []string{
		"=", "==", "===", "====", "=====", "========",
		"A===", "=AAA", "A=AA", "AA=A", "==AA", "=A=A", "A=A=", "=AA=", "===A", "A==A",
		"AA==AAAA", "AAA=AAAA", "AAAAAA=A", "AAAAA=AA", "AAAA=AAA", "AA==AA==", "AAA=AAA=", "=AAAAAAA",
		"AAAA=", "AAAA==", "AAAA===", "AAAA====", "AAAAA===", "AA======", "AAA=====", "AA==A", "AA==AA",
	} {
		isNoBase64(t, s)
	}
}

// Each byte that is none of the 64 signs, at each place.
func TestP12_1Unbase64Signs(t *testing.T) {
	good := []byte("ABCDEFGHIJKLMNOPQRSTUVWXYZabcdefghijklmnopqrstuvwxyz0123456789+/")
	for c := range 256 {
		isSign := strings.IndexByte(string(good), byte(c)) >= 0
		for _, whole := range []string{"AAAA", "AAAAAAAA", "AA==", "AAA="} {
			for at := range len(whole) {
				s := []byte(whole)
				s[at] = byte(c)
				text := string(s)
				if text == whole || isSign || byte(c) == '=' {
					continue
				}
				isNoBase64(t, text)
			}
		}
		if !isSign && c != '=' {
			isNoBase64(t, string([]byte{byte(c)}))
			isNoBase64(t, "AAAA"+string([]byte{byte(c)}))
			isNoBase64(t, string([]byte{byte(c)})+"AAAA")
		}
	}
	for v, c := range good {
		inBase64(t, []byte{byte(v), 0, 0}, base64.StdEncoding.EncodeToString([]byte{byte(v), 0, 0}))
		if b, e := Unbase64(string([]byte{c, c, c, c})); e != api.OK || len(b) != 3 || int(b[0]>>2) != v || int(b[2]&63) != v {
			t.Errorf("%c: %x, %v", c, b, e)
		}
	}
}

// Ends of lines, blanks and the signs of other alphabets are no signs: anywhere, also instead of others.
func TestP12_1Unbase64Lines(t *testing.T) {
	for _, c := range []string{"\n", "\r", "\r\n", " ", "\t", "-", "_", "\x00", ".", ",", "*", "\u00c4", "\xff", "\n\n\n\n", "    "} {
		for _, s := range []string{"", "aGVsbG8=", "AAAA", "aA==", "aGU=", "aGV", "aA="} {
			for at := range len(s) + 1 {
				isNoBase64(t, s[:at]+c+s[at:])
			}
		}
	}
}

// Unused bits must be noughts: of each last sign ahead of = there is one of 16, or one of 4.
func TestP12_1Unbase64UnusedBits(t *testing.T) {
	const all = "ABCDEFGHIJKLMNOPQRSTUVWXYZabcdefghijklmnopqrstuvwxyz0123456789+/"
	for _, ahead := range []string{"", "AAAA", "aGVs////"} {
		for first := range all {
			for last := range all {
				s := ahead + all[first:first+1] + all[last:last+1] + "=="
				if last%16 == 0 {
					holdsTo(t, s)
				} else {
					isNoBase64(t, s)
				}
				s = ahead + all[first:first+1] + "z" + all[last:last+1] + "="
				if last%4 == 0 {
					holdsTo(t, s)
				} else {
					isNoBase64(t, s)
				}
			}
		}
	}
}

// unbase64Model answers the bytes whose base64 the text is, as the library reads it without its leave to break lines.
func unbase64Model(s string) ([]byte, bool) {
	if strings.ContainsAny(s, "\r\n") {
		return nil, false
	}
	b, err := base64.StdEncoding.Strict().DecodeString(s)
	return b, err == nil
}

// holdsTo holds Unbase64 to the model, and tells whether the text is base64.
func holdsTo(t *testing.T, s string) bool {
	t.Helper()
	b, ok := unbase64Model(s)
	if ok {
		inBase64(t, b, s)
	} else {
		isNoBase64(t, s)
	}
	return ok
}

// Each text of up to four of those signs at which something begins or ends, and each pair of such texts of four.
func TestP12_1Unbase64Each(t *testing.T) {
	edges := []byte("=A+/gPzQ\n")
	read := 0
	for size := range 6 {
		s := make([]byte, size)
		for n := range pow(len(edges), size) {
			for i := range s {
				s[i] = edges[n%len(edges)]
				n /= len(edges)
			}
			if holdsTo(t, string(s)) {
				read++
			}
			if size == 4 {
				holdsTo(t, "AAAA"+string(s))
				holdsTo(t, string(s)+"AA==")
				holdsTo(t, string(s)+"AAAA")
			}
		}
	}
	// None, four signs, three with two unused bits as noughts, two with four.
	if want := 1 + pow(7, 4) + pow(7, 2)*lowNoughts("A+/gPzQ", 2) + 7*lowNoughts("A+/gPzQ", 4); read != want {
		t.Errorf("%d are read, not %d", read, want)
	}
}

// lowNoughts answers how many of the signs have this many lowest bits that are noughts.
func lowNoughts(some string, n int) int {
	count := 0
	for _, c := range some {
		v := strings.IndexRune("ABCDEFGHIJKLMNOPQRSTUVWXYZabcdefghijklmnopqrstuvwxyz0123456789+/", c)
		if bits.TrailingZeros8(uint8(v)) >= n {
			count++
		}
	}
	return count
}

func pow(n, m int) int {
	p := 1
	for range m {
		p *= n
	}
	return p
}
