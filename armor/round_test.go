package armor

import (
	"testing"

	"postilion/api"
)

// roundTrip holds that what is encoded is decoded as it was, with the sum and without.
func roundTrip(t *testing.T, kind string, b []byte) {
	t.Helper()
	for _, sum := range []bool{false, true} {
		s, e := Encode(kind, b, sum)
		if e != api.OK {
			t.Fatalf("Encode of %q, %d bytes: %v", kind, len(b), e)
		}
		decodes(t, s, kind, b)
	}
}

// readAgain holds that what is decoded of the text, encoded and decoded once more is the same, and encoded as the same text; it tells whether anything is decoded.
func readAgain(t *testing.T, s string) bool {
	t.Helper()
	kind, b, e := Decode(s)
	if e != api.OK {
		return false
	}
	roundTrip(t, kind, b)
	plain, _ := Encode(kind, b, false)
	again, c, _ := Decode(plain)
	encodes(t, again, c, false, plain)
	return true
}

func TestP12_2EachSize(t *testing.T) {
	for _, kind := range kinds() {
		for n := range 400 {
			roundTrip(t, kind, filled(n))
			roundTrip(t, kind, make([]byte, n))
		}
		for n := 400; n <= api.MaxPacket; n += 1 + n/20 {
			roundTrip(t, kind, filled(n))
		}
		roundTrip(t, kind, filled(api.MaxPacket-1))
		roundTrip(t, kind, filled(api.MaxPacket))
	}
}

func TestP12_2Drawn(t *testing.T) {
	x := drawn(5)
	read := 0
	for range 4000 {
		kind, b := x.of(kinds()...), x.bytes(x.IntN(300))
		roundTrip(t, kind, b)
		s := x.armor(kind, b)
		if !readAgain(t, s) {
			t.Fatalf("%q isn't decoded", s)
		}
		if readAgain(t, x.spoiled(s)) {
			read++
		}
	}
	if read < 50 {
		t.Errorf("of what was spoiled only %d are decoded", read)
	}
}

// What is decoded in each form is encoded in one.
func TestP12_2OneForm(t *testing.T) {
	want := "-----BEGIN PGP MESSAGE-----\n\naGVsbG8=\n-----END PGP MESSAGE-----\n"
	for _, s := range []string{
		want, want[:len(want)-1],
		text("\r\n", hello()...),
		text("\n", with(hello(), 1, "A: b")...),
		inLines("MESSAGE", nil, false, "aGVs", "bG8="),
	} {
		kind, b, e := Decode(s)
		if e != api.OK {
			t.Errorf("%q: %v", s, e)
		}
		encodes(t, kind, b, false, want)
		readAgain(t, s)
	}
}

// What Base64 writes Unbase64 reads, and what Unbase64 reads Base64 writes so.
func TestP12_2Base64(t *testing.T) {
	x := drawn(6)
	for n := range 2000 {
		b := x.bytes(n)
		c, e := Unbase64(Base64(b))
		if e != api.OK || string(c) != string(b) {
			t.Fatalf("%d bytes %x: %x, %v", n, short(b), short(c), e)
		}
	}
	read := 0
	for range 100000 {
		s := x.of("", "AAAA", "+/+/") + string(signs[x.IntN(64)]) + string(signs[x.IntN(64)]) + x.of("==", "=", "A=", "Q=", "AA", "z/", "A", "g==", "===")
		b, e := Unbase64(s)
		if e != api.OK {
			continue
		}
		read++
		if Base64(b) != s {
			t.Fatalf("%q is read, and written as %q", s, Base64(b))
		}
	}
	if read < 10000 {
		t.Errorf("of what was drawn only %d are read", read)
	}
}

// The sum that Encode writes is Sum's, and Decode asks for that one.
func TestP12_2Sum(t *testing.T) {
	for n := range 300 {
		b := filled(n)
		sum := Sum(b)
		line := "=" + Base64([]byte{byte(sum >> 16), byte(sum >> 8), byte(sum)})
		encodes(t, "SIGNATURE", b, true, inLines("SIGNATURE", nil, false, append(cut(b, 64), line)...))
		decodes(t, inLines("SIGNATURE", nil, false, append(cut(b, 64), line)...), "SIGNATURE", b)
		sum ^= 1 << (n % 24)
		line = "=" + Base64([]byte{byte(sum >> 16), byte(sum >> 8), byte(sum)})
		refuses(t, inLines("SIGNATURE", nil, false, append(cut(b, 64), line)...), api.ErrForm)
	}
}

// Whatever comes in is read as the model says, or refused; and what is read goes there and back.
func FuzzP12_2(f *testing.F) {
	x := drawn(7)
	for range 50 {
		f.Add(x.armor(x.of(kinds()...), x.bytes(x.IntN(100))))
	}
	f.Fuzz(func(t *testing.T, s string) {
		asModelled(t, s)
		readAgain(t, s)
		holdsTo(t, s)
		sums(t, []byte(short(s)))
	})
}
