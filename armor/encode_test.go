package armor

import (
	"encoding/base64"
	"strings"
	"testing"

	"postilion/api"
)

func kinds() []string {
	return []string{"MESSAGE", "PUBLIC KEY BLOCK", "SIGNATURE"}
}

// first and last answer the lines of a kind.
func first(kind string) string {
	return "-----BEGIN PGP " + kind + "-----"
}

func last(kind string) string {
	return "-----END PGP " + kind + "-----"
}

// cut answers the base64 of the bytes in lines of n signs.
func cut(b []byte, n int) []string {
	var list []string
	s := base64.StdEncoding.EncodeToString(b)
	for len(s) > n {
		list, s = append(list, s[:n]), s[n:]
	}
	if s != "" {
		list = append(list, s)
	}
	return list
}

// sumOf answers the line with the sum of the bytes.
func sumOf(b []byte) string {
	sum := Sum(b)
	return "=" + base64.StdEncoding.EncodeToString([]byte{byte(sum >> 16), byte(sum >> 8), byte(sum)})
}

// text answers the lines, each with this end.
func text(end string, lines ...string) string {
	var s strings.Builder
	for _, line := range lines {
		s.WriteString(line + end)
	}
	return s.String()
}

// armored answers the armor of the bytes as the chapter says it, in lines of n signs.
func armored(kind string, b []byte, n int, sum bool) string {
	lines := append([]string{first(kind), ""}, cut(b, n)...)
	if sum {
		lines = append(lines, sumOf(b))
	}
	return text("\n", append(lines, last(kind))...)
}

// encodes holds that the bytes' armor is this one.
func encodes(t *testing.T, kind string, b []byte, sum bool, want string) {
	t.Helper()
	if s, e := Encode(kind, b, sum); e != api.OK || s != want {
		t.Errorf("Encode of %q, %d bytes, %v: %d bytes %q, %v, not %d bytes %q", kind, len(b), sum, len(s), short(s), e, len(want), short(want))
	}
}

// notEncoded holds that there is no armor of the bytes, with the sum or without.
func notEncoded(t *testing.T, kind string, b []byte, want api.Errno) {
	t.Helper()
	for _, sum := range []bool{false, true} {
		if s, e := Encode(kind, b, sum); e != want || s != "" {
			t.Errorf("Encode of %q, %d bytes, %v: %q, %v, not %v", kind, len(b), sum, short(s), e, want)
		}
	}
}

func TestP12_1EncodeKnown(t *testing.T) {
	encodes(t, "MESSAGE", []byte("hello"), false, "-----BEGIN PGP MESSAGE-----\n\naGVsbG8=\n-----END PGP MESSAGE-----\n")
	encodes(t, "MESSAGE", []byte("123456789"), true, "-----BEGIN PGP MESSAGE-----\n\nMTIzNDU2Nzg5\n=Ic8C\n-----END PGP MESSAGE-----\n")
	encodes(t, "PUBLIC KEY BLOCK", []byte("123456789"), true, "-----BEGIN PGP PUBLIC KEY BLOCK-----\n\nMTIzNDU2Nzg5\n=Ic8C\n-----END PGP PUBLIC KEY BLOCK-----\n")
	encodes(t, "SIGNATURE", []byte("f"), false, "-----BEGIN PGP SIGNATURE-----\n\nZg==\n-----END PGP SIGNATURE-----\n")
}

// Of no bytes there is no line of base64, and the sum if it is asked for.
func TestP12_1EncodeNone(t *testing.T) {
	for _, kind := range kinds() {
		for _, b := range [][]byte{nil, {}, make([]byte, 0, 9)} {
			encodes(t, kind, b, false, first(kind)+"\n\n"+last(kind)+"\n")
			encodes(t, kind, b, true, first(kind)+"\n\n=twTO\n"+last(kind)+"\n")
		}
	}
}

// 48 bytes fill a line; of one more there is another line.
func TestP12_1EncodeLines(t *testing.T) {
	for n, lines := range map[int][]int{1: {4}, 3: {4}, 46: {64}, 47: {64}, 48: {64}, 49: {64, 4}, 51: {64, 4}, 52: {64, 8}, 95: {64, 64}, 96: {64, 64}, 97: {64, 64, 4}, 144: {64, 64, 64}} {
		s, e := Encode("MESSAGE", filled(n), false)
		list := strings.Split(s, "\n")
		if e != api.OK || len(list) != len(lines)+4 {
			t.Fatalf("%d: %v, %q", n, e, s)
		}
		for i, size := range lines {
			if len(list[i+2]) != size {
				t.Errorf("%d: line %d has %d signs, not %d", n, i, len(list[i+2]), size)
			}
		}
	}
	full := strings.Repeat("A", 64)
	encodes(t, "SIGNATURE", make([]byte, 48), false, text("\n", first("SIGNATURE"), "", full, last("SIGNATURE")))
	encodes(t, "SIGNATURE", make([]byte, 49), false, text("\n", first("SIGNATURE"), "", full, "AA==", last("SIGNATURE")))
}

func TestP12_1EncodeEachSize(t *testing.T) {
	for _, kind := range kinds() {
		for n := range 300 {
			encodes(t, kind, filled(n), false, armored(kind, filled(n), 64, false))
			encodes(t, kind, filled(n), true, armored(kind, filled(n), 64, true))
		}
		for n := api.MaxPacket - 50; n <= api.MaxPacket; n++ {
			encodes(t, kind, filled(n), n%2 == 0, armored(kind, filled(n), 64, n%2 == 0))
		}
		encodes(t, kind, filled(api.MaxPacket), false, armored(kind, filled(api.MaxPacket), 64, false))
	}
}

// noKinds answers texts that are none, though some of them begin or end as one, or with what stands around it.
func noKinds() []string {
	return []string{
		"", " ", "-", "-----", "message", "Message", "MESSAG", "ESSAGE", "MESSAGES", "MESSAGE ", " MESSAGE", "MESSAGE-", "-MESSAGE", "MESSAGE-----", "MESSAGE\n", "\nMESSAGE", "MESSAGE\r", "MESSAGE\x00", "MESSAGEMESSAGE", "MESSAGE-----\n",
		"PUBLIC KEY", "PUBLIC KEY BLOCKS", "PUBLIC  KEY BLOCK", "PUBLICKEYBLOCK", "public key block", "KEY BLOCK", "PUBLIC KEY BLOCK ", "PRIVATE KEY BLOCK", "SECRET KEY BLOCK",
		"SIGNATURES", "signature", "SIGNATURE ", "SIGNED MESSAGE", "MESSAGE, PART 1/2", "MESSAGE SIGNATURE", "BEGIN PGP MESSAGE", "-----BEGIN PGP MESSAGE-----", "M\u00cbSSAGE", "\xff", "MESSAGE, PUBLIC KEY BLOCK or SIGNATURE",
	}
}

func TestP12_1EncodeNoKind(t *testing.T) {
	for _, kind := range noKinds() {
		for _, n := range []int{0, 1, 100, api.MaxPacket} {
			notEncoded(t, kind, filled(n), api.ErrArg)
		}
	}
	notEncoded(t, strings.Repeat("MESSAGE", 100000), nil, api.ErrArg)
}

// Of both errors ErrArg is told.
func TestP12_1EncodeLong(t *testing.T) {
	for _, n := range []int{api.MaxPacket + 1, api.MaxPacket + 2, 1 << 15, 1 << 16, 1 << 20} {
		for _, kind := range kinds() {
			notEncoded(t, kind, make([]byte, n), api.ErrLong)
		}
		for _, kind := range noKinds() {
			notEncoded(t, kind, make([]byte, n), api.ErrArg)
		}
	}
	// Spare room counts for nothing.
	encodes(t, "MESSAGE", make([]byte, 3, 2*api.MaxPacket), false, armored("MESSAGE", make([]byte, 3), 64, false))
}
