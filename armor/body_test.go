package armor

import (
	"slices"
	"strings"
	"testing"

	"postilion/api"
)

// inLines answers an armor with these lines of base64, and the sum of the bytes or none.
func inLines(kind string, b []byte, sum bool, lines ...string) string {
	lines = slices.Concat([]string{first(kind), ""}, lines)
	if sum {
		lines = append(lines, sumOf(b))
	}
	return text("\n", append(lines, last(kind))...)
}

// Lines of each number of signs that is a multiple of four, to 76.
func TestP12_1DecodeLines(t *testing.T) {
	for signs := 4; signs <= 76; signs += 4 {
		for n := range 240 {
			b := filled(n)
			decodes(t, armored("MESSAGE", b, signs, false), "MESSAGE", b)
			decodes(t, armored("SIGNATURE", b, signs, true), "SIGNATURE", b)
			decodes(t, strings.ReplaceAll(armored("SIGNATURE", b, signs, true), "\n", "\r\n"), "SIGNATURE", b)
		}
	}
	for signs := 80; signs < 400; signs += 4 {
		b := filled(signs / 4 * 3)
		refuses(t, armored("MESSAGE", b, signs, false), api.ErrForm)
		refuses(t, armored("MESSAGE", b[:len(b)-1], signs, true), api.ErrForm)
		refuses(t, armored("MESSAGE", append(b, 1), signs, true), api.ErrForm)
	}
}

// A line of 76 signs is read, as the only one, the first, the last; one of 77 is not, whatever stands behind it.
func TestP12_1DecodeLongestLine(t *testing.T) {
	for _, n := range []int{55, 56, 57} {
		b := filled(n)
		s := Base64(b)
		decodes(t, inLines("MESSAGE", b, true, s), "MESSAGE", b)
		decodes(t, inLines("MESSAGE", b, false, s), "MESSAGE", b)
		for _, more := range []string{"=", "A", " ", "\r\r"} {
			refuses(t, inLines("MESSAGE", b, true, s+more), api.ErrForm)
		}
	}
	b := filled(114)
	s := Base64(b)
	decodes(t, inLines("MESSAGE", b, true, s[:76], s[76:]), "MESSAGE", b)
	for _, at := range []int{77, 78, 79, 80, 84, 100} {
		refuses(t, inLines("MESSAGE", b, true, s[:at], s[at:]), api.ErrForm)
		refuses(t, inLines("MESSAGE", b, true, s[:len(s)-at], s[len(s)-at:]), api.ErrForm)
		refuses(t, inLines("MESSAGE", b, true, s[:at], s[at:at+4], s[at+4:]), api.ErrForm)
	}
	refuses(t, inLines("MESSAGE", b, true, s), api.ErrForm)
}

// Lines need not be of the same number of signs: each way to cut the base64 in three.
func TestP12_1DecodeUnequalLines(t *testing.T) {
	for _, n := range []int{13, 14, 15} {
		b := filled(n)
		s := Base64(b)
		for i := range len(s) {
			for j := i + 1; j < len(s); j++ {
				if i == 0 {
					continue
				}
				text := inLines("MESSAGE", b, true, s[:i], s[i:j], s[j:])
				if i%4 == 0 && j%4 == 0 {
					decodes(t, text, "MESSAGE", b)
				} else {
					refuses(t, text, api.ErrForm)
				}
			}
		}
	}
}

// Numbers of signs that are no multiples of four, in a line that isn't the last one and in the last one, also where they are a multiple together.
func TestP12_1DecodeOddLines(t *testing.T) {
	for _, lines := range [][]string{
		{"aGVsb", "G8="}, {"a", "GVsbG8="}, {"aG", "VsbG8="}, {"aGV", "sbG8="}, {"aGVsbG", "8="}, {"aGVsbG8", "="}, {"a", "G", "V", "s", "bG8="}, {"aGVsb", "G8"}, {"aGVs", "bG8"}, {"aGVs", "bG", "8="}, {"aGVs", "bG8", "="}, {"aGVs", "b", "G8="},
		{"aGVsbG8"}, {"a"}, {"aG"}, {"aGV"}, {"aGVsb"}, {"aGVsbG"}, {"aGVsbG8=="}, {"aGVsbG8=", "="},
	} {
		refuses(t, inLines("MESSAGE", []byte("hello"), false, lines...), api.ErrForm)
		refuses(t, inLines("MESSAGE", []byte("hello"), true, lines...), api.ErrForm)
	}
	b := filled(96)
	s := Base64(b)
	for at := 1; at < len(s); at++ {
		text := inLines("MESSAGE", b, false, s[:at], s[at:])
		if at%4 == 0 && at <= 76 && len(s)-at <= 76 {
			decodes(t, text, "MESSAGE", b)
		} else {
			refuses(t, text, api.ErrForm)
		}
	}
}

// An = ahead of the end, a sign that is none, and unused bits that aren't noughts.
func TestP12_1DecodeNoBase64(t *testing.T) {
	for _, lines := range [][]string{
		{"aA==", "aA=="}, {"aGU=", "aGVs"}, {"aA==aGVs"}, {"aA=a"}, {"aB=="}, {"aGV="}, {"aGVs", "aB=="}, {"aGVs", "aGV="}, {"aGVs", "===="}, {"aGVs", "A==="}, {"===="}, {"=aGV"}, {"=aGVsbG8"},
		{"aG V"}, {"aGVs "}, {" aGVs"}, {"aGV "}, {"aGV\t"}, {"a-_="}, {"aGV\x00"}, {"\x00GVs"}, {"aGV-"}, {"aGV:"}, {"A: b"}, {"aGVs", "A: b"}, {"\u00e4\u00e4"}, {"\xff\xff\xff\xff"}, {"aG\rV"}, {"aGV\r"},
		{"-----"}, {"--==", "aGVs"}, {"- aGVs"}, {"-AAA"}, {"aGVs", "-AAA"}, {"aGVs", "----"},
	} {
		refuses(t, inLines("MESSAGE", nil, false, lines...), api.ErrForm)
		refuses(t, inLines("MESSAGE", nil, true, lines...), api.ErrForm)
	}
	// Without an empty line among them; with one.
	refuses(t, inLines("MESSAGE", []byte("hello!"), true, "aGVs", "", "bG8h"), api.ErrForm)
	refuses(t, inLines("MESSAGE", []byte("hello!"), false, "aGVs", "", "bG8h"), api.ErrForm)
	refuses(t, inLines("MESSAGE", []byte("hello!"), true, "aGVs", "bG8h", ""), api.ErrForm)
	refuses(t, inLines("MESSAGE", []byte("hello!"), false, "aGVs", "bG8h", ""), api.ErrForm)
	decodes(t, inLines("MESSAGE", []byte("hello!"), true, "aGVs", "bG8h"), "MESSAGE", []byte("hello!"))
}

// Each byte in the place of each sign: it is read if it is one of the 64, and the bytes are then others.
func TestP12_1DecodeEachSign(t *testing.T) {
	for at := range 12 {
		for c := range 256 {
			line := []byte("Zm9vYmFyYmF6")
			line[at] = byte(c)
			want, ok := unbase64Model(string(line))
			s := inLines("MESSAGE", nil, false, string(line))
			if ok {
				decodes(t, s, "MESSAGE", want)
			} else {
				refuses(t, s, api.ErrForm)
			}
		}
	}
}

// Only the sum of the bytes is right, in the signs that it has.
func TestP12_1DecodeSums(t *testing.T) {
	lines := hello()
	reads(t, lines)
	reads(t, without(lines, 3))
	right := lines[3]
	for at := 1; at < 5; at++ {
		for c := range 256 {
			line := []byte(right)
			line[at] = byte(c)
			if string(line) != right && c != '\n' {
				refuses(t, text("\n", instead(lines, 3, string(line))...), api.ErrForm)
			}
		}
	}
	for n := range 4 {
		formless(t, instead(lines, 3, right[:n+1]))
		formless(t, instead(lines, 3, "="+right[5-n:]))
	}
	for _, line := range []string{right + "=", right + "A", right + "AAAA", right + " ", " " + right, "=" + right, right[1:], "==" + right[1:], "-" + right[1:], right + right, "=twTO", "=AAAA", "=====", right[:3] + "==", right[:4] + "="} {
		formless(t, instead(lines, 3, line))
	}
}

// A sum stands once, in a line of its own, behind all base64 and right ahead of the last line.
func TestP12_1DecodeSumPlaces(t *testing.T) {
	lines := hello()
	right := lines[3]
	formless(t, with(lines, 3, right))
	formless(t, with(lines, 3, right, right))
	formless(t, with(lines, 3, "=twTO"))
	formless(t, with(lines, 4, "=twTO"))
	formless(t, with(lines, 4, ""))
	formless(t, with(lines, 3, ""))
	formless(t, with(lines, 4, "aGVs"))
	formless(t, with(lines, 4, "AAAA"))
	formless(t, with(lines, 4, "A: b"))
	for _, at := range []int{0, 1, 2, 4} {
		formless(t, with(without(lines, 3), at, right))
	}
	formless(t, instead(without(lines, 3), 2, "aGVsbG8="+right))
	// A sum in the midst, of what stands ahead of it or of all.
	refuses(t, inLines("MESSAGE", nil, false, "aGVs", sumOf([]byte("hel")), "bG8="), api.ErrForm)
	refuses(t, inLines("MESSAGE", nil, false, "aGVs", right, "bG8="), api.ErrForm)
	refuses(t, inLines("MESSAGE", []byte("hello"), true, "aGVs", sumOf([]byte("hel")), "bG8="), api.ErrForm)
	decodes(t, inLines("MESSAGE", nil, false, "aGVs", "bG8=", right), "MESSAGE", []byte("hello"))
}

// A sum is of the bytes, all of them, and of nothing else.
func TestP12_1DecodeSumOfBytes(t *testing.T) {
	for n := range 200 {
		b := filled(n)
		s := armored("MESSAGE", b, 64, false)
		at := strings.Index(s, last("MESSAGE"))
		for _, c := range [][]byte{b, filled(n + 1), append(filled(n), 0), []byte(Base64(b)), append([]byte{0}, b...), nil} {
			with := s[:at] + sumOf(c) + "\n" + s[at:]
			if string(b) == string(c) {
				decodes(t, with, "MESSAGE", b)
			} else {
				refuses(t, with, api.ErrForm)
			}
		}
	}
}

// MaxPacket bytes are read in whatever lines; of one more, and of many more, it is told that they are too many.
func TestP12_1DecodeLong(t *testing.T) {
	for _, signs := range []int{4, 60, 64, 76} {
		for _, n := range []int{api.MaxPacket - 1, api.MaxPacket} {
			b := filled(n)
			decodes(t, armored("MESSAGE", b, signs, false), "MESSAGE", b)
			decodes(t, armored("PUBLIC KEY BLOCK", b, signs, true), "PUBLIC KEY BLOCK", b)
		}
		for _, n := range []int{api.MaxPacket + 1, api.MaxPacket + 2, api.MaxPacket + 3, 1 << 15, 1 << 16, 1 << 18} {
			b := filled(n)
			for _, kind := range kinds() {
				refuses(t, armored(kind, b, signs, false), api.ErrLong)
				refuses(t, armored(kind, b, signs, true), api.ErrLong)
			}
		}
	}
}

// What is too long and no armor either is no armor, wherever that is met.
func TestP12_1DecodeLongAndFormless(t *testing.T) {
	for _, n := range []int{api.MaxPacket + 1, api.MaxPacket + 2, 100000} {
		b := filled(n)
		plain, summed := armored("MESSAGE", b, 64, false), armored("MESSAGE", b, 64, true)
		long := func(s string) {
			t.Helper()
			refuses(t, s, api.ErrLong)
		}
		form := func(s string) {
			t.Helper()
			refuses(t, s, api.ErrForm)
		}
		long(strings.ReplaceAll(summed, "\n", "\r\n"))
		long(strings.TrimSuffix(summed, "\n"))
		long(strings.Replace(plain, "\n\n", "\nA: b\n\n", 1))
		form(strings.Replace(plain, "\n\n", "\nA:b\n\n", 1))
		form(strings.Replace(plain, "\n\n", "\n", 1))
		form(strings.Replace(plain, "\n\n", "\n\n\n", 1))
		form(strings.Replace(plain, "BEGIN", "BEGUN", 1))
		form(strings.Replace(plain, "END PGP MESSAGE", "END PGP SIGNATURE", 1))
		form(plain[:len(plain)-2])
		form(plain + "\n")
		form(strings.Replace(summed, sumOf(b), sumOf(b[:n-1]), 1))
		form(strings.Replace(summed, sumOf(b), sumOf(b[:api.MaxPacket]), 1))
		form(strings.Replace(summed, sumOf(b), sumOf(b)[:4], 1))
		form(strings.Replace(summed, sumOf(b), sumOf(b)+"\n"+sumOf(b), 1))
		form(strings.Replace(summed, sumOf(b), sumOf(b)+"\nAAAA", 1))
		form(strings.Replace(plain, last("MESSAGE"), "AAA\n"+last("MESSAGE"), 1))
		form(strings.Replace(plain, last("MESSAGE"), "\n"+last("MESSAGE"), 1))
		form(strings.Replace(plain, last("MESSAGE"), "AB==\n"+last("MESSAGE"), 1))
		form(armored("MESSAGE", b, 80, false))
		form(plain[:200] + "*" + plain[201:])
		form(plain[:len(plain)-100] + "*" + plain[len(plain)-99:])
	}
}
