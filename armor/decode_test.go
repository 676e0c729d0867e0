package armor

import (
	"slices"
	"strings"
	"testing"

	"postilion/api"
)

// decodes holds that the text is armor of this kind and these bytes.
func decodes(t *testing.T, s, kind string, want []byte) {
	t.Helper()
	if k, b, e := Decode(s); e != api.OK || k != kind || string(b) != string(want) {
		t.Errorf("Decode of %d bytes %q: %q, %d bytes %x, %v, not %q, %d bytes", len(s), short(s), k, len(b), short(b), e, kind, len(want))
	}
}

// refuses holds that the text answers this error, and neither a kind nor bytes.
func refuses(t *testing.T, s string, want api.Errno) {
	t.Helper()
	if k, b, e := Decode(s); e != want || k != "" || len(b) != 0 {
		t.Errorf("Decode of %d bytes %q: %q, %d bytes %x, %v, not %v", len(s), short(s), k, len(b), short(b), e, want)
	}
}

// hello answers the lines of an armor of "hello".
func hello() []string {
	return []string{first("MESSAGE"), "", "aGVsbG8=", sumOf([]byte("hello")), last("MESSAGE")}
}

// with answers the lines, with others put in at a place.
func with(lines []string, at int, more ...string) []string {
	return slices.Insert(slices.Clone(lines), at, more...)
}

// without answers the lines but the one at a place.
func without(lines []string, at int) []string {
	return slices.Delete(slices.Clone(lines), at, at+1)
}

// instead answers the lines, with another one at a place.
func instead(lines []string, at int, line string) []string {
	lines = slices.Clone(lines)
	lines[at] = line
	return lines
}

// reads holds that the lines are armor of "hello", whatever ends them.
func reads(t *testing.T, lines []string) {
	t.Helper()
	decodes(t, text("\n", lines...), "MESSAGE", []byte("hello"))
	decodes(t, text("\r\n", lines...), "MESSAGE", []byte("hello"))
}

// formless holds that the lines are no armor, whatever ends them.
func formless(t *testing.T, lines []string) {
	t.Helper()
	refuses(t, text("\n", lines...), api.ErrForm)
	refuses(t, text("\r\n", lines...), api.ErrForm)
	refuses(t, strings.Join(lines, "\n"), api.ErrForm)
}

// What RFC 4880 has as an example, with a header and a sum.
func TestP12_1DecodeKnown(t *testing.T) {
	s := `-----BEGIN PGP MESSAGE-----
Version: OpenPrivacy 0.99

yDgBO22WxBHv7O8X7O/jygAEzol56iUKiXmV+XmpCtmpqQUKiQrFqclFqUDBovzS
vBSFjNSiVHsuAA==
=njUN
-----END PGP MESSAGE-----
`
	k, b, e := Decode(s)
	if k != "MESSAGE" || len(b) != 58 || b[0] != 0xc8 || b[1] != 0x38 || b[57] != 0 || e != api.OK {
		t.Errorf("%q, %d bytes %x, %v", k, len(b), b, e)
	}
	for i := range b {
		c := slices.Clone(b)
		c[i]++
		refuses(t, strings.Replace(armored("MESSAGE", c, 64, true), sumOf(c), "=njUN", 1), api.ErrForm)
	}
	decodes(t, "-----BEGIN PGP SIGNATURE-----\n\naGVsbG8=\n-----END PGP SIGNATURE-----\n", "SIGNATURE", []byte("hello"))
	decodes(t, "-----BEGIN PGP PUBLIC KEY BLOCK-----\n\nMTIzNDU2Nzg5\n=Ic8C\n-----END PGP PUBLIC KEY BLOCK-----\n", "PUBLIC KEY BLOCK", []byte("123456789"))
}

func TestP12_1DecodeNone(t *testing.T) {
	for _, kind := range kinds() {
		decodes(t, text("\n", first(kind), "", last(kind)), kind, nil)
		decodes(t, text("\n", first(kind), "", "=twTO", last(kind)), kind, nil)
		refuses(t, text("\n", first(kind), "", "=twTN", last(kind)), api.ErrForm)
		refuses(t, text("\n", first(kind), "", "=AAAA", last(kind)), api.ErrForm)
		refuses(t, text("\n", first(kind), "", "=", last(kind)), api.ErrForm)
		refuses(t, text("\n", first(kind), "", "====", last(kind)), api.ErrForm)
		refuses(t, text("\n", first(kind), last(kind)), api.ErrForm)
		refuses(t, text("\n", first(kind), "=twTO", last(kind)), api.ErrForm)
		refuses(t, text("\n", first(kind), "", "", last(kind)), api.ErrForm)
		refuses(t, text("\n", first(kind), "", "", "=twTO", last(kind)), api.ErrForm)
		refuses(t, text("\n", first(kind), "", "=twTO", "", last(kind)), api.ErrForm)
	}
}

// No text, and texts that are one line or some of them.
func TestP12_1DecodeNoArmor(t *testing.T) {
	for _, s := range []string{"", "x", "\n", "\r\n", "\r", "\n\n", "\n\n\n\n\n", " ", "\x00", "\xff\xfe", "=", "aGVsbG8=", "aGVsbG8=\n", "=twTO", "-", "-----", "-----BEGIN PGP -----", "-----BEGIN PGP -----\n\n-----END PGP -----\n", "-----BEGIN PGP MESSAGE-----", "-----BEGIN PGP MESSAGE-----\n", "-----BEGIN PGP MESSAGE-----\n\n", "-----END PGP MESSAGE-----\n", "hello", "Version: 1", "Version: 1\n\naGVsbG8=\n", strings.Repeat("\n", 100000), strings.Repeat("A: b\n", 1000), first("MESSAGE") + "\n" + strings.Repeat("A: b\n", 1000)} {
		refuses(t, s, api.ErrForm)
	}
}

// Each line ends with a line feed, or a carriage return and one, as it likes.
func TestP12_1DecodeEnds(t *testing.T) {
	lines := with(hello(), 1, "Version: 1")
	for mask := range 1 << len(lines) {
		var s string
		for i, line := range lines {
			s += line
			if mask>>i&1 != 0 {
				s += "\r"
			}
			s += "\n"
		}
		decodes(t, s, "MESSAGE", []byte("hello"))
		bare := strings.TrimRight(s, "\r\n")
		decodes(t, bare, "MESSAGE", []byte("hello"))
		decodes(t, bare+"\n", "MESSAGE", []byte("hello"))
		decodes(t, bare+"\r\n", "MESSAGE", []byte("hello"))
		for _, more := range []string{"\r", "\r\r\n", "\n\r", "\r\n\r", "\n\n", "\r\n\r\n", "\n\r\n", "\r\n\n", "\r\r", "\n\r\r\n"} {
			refuses(t, bare+more, api.ErrForm)
		}
	}
}

// Ends of other kinds, and lines that have none, are none; but for the last one.
func TestP12_1DecodeOtherEnds(t *testing.T) {
	lines := hello()
	for _, end := range []string{"\r", "\r\r\n", "\v", "\f", "\x00", "\u0085", "\u2028", " \n", "\t\n", " \r\n", " "} {
		refuses(t, text(end, lines...), api.ErrForm)
		for at := range lines {
			refuses(t, text("\n", lines[:at]...)+lines[at]+end+text("\n", lines[at+1:]...), api.ErrForm)
		}
	}
	refuses(t, text("\n\r", lines...), api.ErrForm)
	refuses(t, text("", lines...), api.ErrForm)
	for at := range len(lines) - 1 {
		refuses(t, text("\n", lines[:at]...)+lines[at]+text("\n", lines[at+1:]...), api.ErrForm)
	}
}

// A carriage return that stands elsewhere is a byte of its line; what a header's value is counts for nothing.
func TestP12_1DecodeCarriageReturns(t *testing.T) {
	s := text("\n", hello()...)
	for at := range len(s) + 1 {
		if at < len(s) && s[at] == '\n' {
			decodes(t, s[:at]+"\r"+s[at:], "MESSAGE", []byte("hello"))
			refuses(t, s[:at]+"\r\r"+s[at:], api.ErrForm)
			continue
		}
		refuses(t, s[:at]+"\r"+s[at:], api.ErrForm)
	}
	for _, header := range []string{"Name: \r", "Name: a\rb", "Name: a\r", "Name: \r\r", "Name: \ra"} {
		reads(t, with(hello(), 1, header))
	}
	for _, header := range []string{"\r", "\rName: a", "Na\rme: a", "Name\r: a", "Name:\r a", "Name:\r", "\r\r"} {
		formless(t, with(hello(), 1, header))
	}
}

func TestP12_1DecodeKinds(t *testing.T) {
	lines := hello()
	for _, begun := range kinds() {
		for _, ended := range kinds() {
			s := text("\n", instead(instead(lines, 0, first(begun)), 4, last(ended))...)
			if begun == ended {
				decodes(t, s, begun, []byte("hello"))
			} else {
				refuses(t, s, api.ErrForm)
			}
		}
	}
	for _, kind := range noKinds() {
		formless(t, instead(instead(lines, 0, first(kind)), 4, last(kind)))
		formless(t, instead(lines, 0, first(kind)))
		formless(t, instead(lines, 4, last(kind)))
	}
}

// First and last lines with a byte more, a byte less, and another one.
func TestP12_1DecodeOuterLines(t *testing.T) {
	lines := hello()
	for _, at := range []int{0, 4} {
		line := lines[at]
		for i := range len(line) + 1 {
			for _, c := range []string{" ", "-", "A", "\t", "\x00", "\r\r"} {
				formless(t, instead(lines, at, line[:i]+c+line[i:]))
			}
			if i == len(line) {
				continue
			}
			formless(t, instead(lines, at, line[:i]+line[i+1:]))
			for _, c := range []byte{' ', '_', line[i] ^ 32, line[i] + 1, line[i] - 1, line[i] | 128} {
				if c != line[i] {
					formless(t, instead(lines, at, line[:i]+string([]byte{c})+line[i+1:]))
				}
			}
		}
	}
	formless(t, instead(lines, 0, lines[4]))
	formless(t, instead(lines, 4, lines[0]))
	formless(t, without(lines, 0))
	formless(t, without(lines, 4))
	formless(t, instead(instead(lines, 0, lines[4]), 4, lines[0]))
}

// Something ahead of it, and something behind.
func TestP12_1DecodeMore(t *testing.T) {
	s := text("\n", hello()...)
	for _, more := range []string{"\n", "\r\n", "\r", " ", "\t", "x", "x\n", "\x00", "-", "Version: 1\n", "Hello,\n\n", "=twTO\n", "aGVs\n", "\ufeff", s, "\n" + s} {
		refuses(t, more+s, api.ErrForm)
		refuses(t, s+more, api.ErrForm)
		refuses(t, more+s+more, api.ErrForm)
		if more != "\n" && more != "\r\n" {
			refuses(t, strings.TrimSuffix(s, "\n")+more, api.ErrForm)
		}
	}
	for n := range len(s) {
		if n == len(s)-1 {
			decodes(t, s[:n], "MESSAGE", []byte("hello"))
		} else {
			refuses(t, s[:n], api.ErrForm)
		}
		if n > 0 {
			refuses(t, s[n:], api.ErrForm)
		}
	}
}

func TestP12_1DecodeEmptyLines(t *testing.T) {
	lines := hello()
	formless(t, without(lines, 1))
	formless(t, with(without(lines, 1), 1, "Version: 1"))
	for at := range lines {
		formless(t, with(lines, at, ""))
		formless(t, with(lines, at, "", ""))
	}
	formless(t, append(lines, "", ""))
	formless(t, with(lines, 1, "", "Version: 1"))
	formless(t, with(lines, 2, "Version: 1"))
	formless(t, with(lines, 2, "Version: 1", ""))
	formless(t, with(lines, 3, "Version: 1"))
	for _, line := range []string{" ", "\t", "  ", "\x00", "-", "x"} {
		formless(t, instead(lines, 1, line))
		formless(t, with(lines, 1, line))
	}
}

// Headers count for nothing: how many there are, whether one stands twice, and what their values are.
func TestP12_1DecodeHeaders(t *testing.T) {
	lines := hello()
	values := []string{"", " ", "1", "x", ": ", ":", "a: b", " a", "a ", "\t", "-----END PGP MESSAGE-----", "aGVsbG8=", "=twTO", "\x00", "\xff\xfe\x80", "\u00e4\u20ac", "1.2.3 (Linux)", strings.Repeat("x", 77), strings.Repeat("long ", 10000)}
	names := []string{"A", "Z", "a", "z", "Version", "Comment", "Hash", "Charset", "MessageID", "ABCDEFGHIJKLMNOPQRSTUVWXYZ", "abcdefghijklmnopqrstuvwxyz", strings.Repeat("name", 50)}
	var all []string
	for _, name := range names {
		for _, value := range values {
			reads(t, with(lines, 1, name+": "+value))
			all = append(all, name+": "+value)
		}
	}
	reads(t, with(lines, 1, all...))
	reads(t, with(lines, 1, "Comment: a", "Comment: a", "Comment: a"))
	reads(t, with(without(lines, 3), 1, "Comment: a"))
	decodes(t, text("\n", first("SIGNATURE"), "A: b", "", last("SIGNATURE")), "SIGNATURE", nil)
}

// Lines ahead of the empty one that are no headers, alone, and ahead of one and behind one.
func TestP12_1DecodeNoHeaders(t *testing.T) {
	lines := hello()
	bad := []string{"Version", "Version:", "Version:1", "Version :1", ":", ": ", ": 1", " : 1", "Version : 1", " Version: 1", "Version 1: 1", "Version1: 1", "1Version: 1", "Ver1sion: 1", "Message-ID: 1", "My_Name: 1", "Name.: 1", "Na:me: 1", ":Name: 1", "Name:: 1", "Name:\t1", "Name\t: 1", "N\u00e4me: 1", "\u00c4: 1", "Name\xff: 1", "\x00: 1", "Name\x00: 1", "@: 1", "[: 1", "`: 1", "{: 1", "+: 1", "/: 1", "A=: 1", "aGVsbG8=", "=twTO", "x", "1: ", " ", " a: b", "a:b: c", "\ufeffName: a"}
	for _, line := range bad {
		formless(t, with(lines, 1, line))
		formless(t, with(lines, 1, "A: b", line))
		formless(t, with(lines, 1, line, "A: b"))
	}
	for c := range 256 {
		name := string([]byte{byte(c)})
		if isLetter := c >= 'A' && c <= 'Z' || c >= 'a' && c <= 'z'; isLetter {
			reads(t, with(lines, 1, name+": x"))
			reads(t, with(lines, 1, "A"+name+"z: x"))
		} else if c != '\n' {
			formless(t, with(lines, 1, name+": x"))
			formless(t, with(lines, 1, "A"+name+"z: x"))
		}
	}
}
