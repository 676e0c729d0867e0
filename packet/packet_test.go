package packet

import (
	"bytes"
	"encoding/binary"
	"slices"
	"testing"

	"postilion/api"
)

// filled answers n bytes that differ from place to place, with the first bytes of packets and lengths among them.
func filled(n int) []byte {
	b := make([]byte, n)
	for i := range b {
		b[i] = byte(i*7 + i/256 + n)
	}
	return b
}

// join answers the pieces, one behind the other.
func join(pieces ...[]byte) []byte {
	return slices.Concat(pieces...)
}

// lasting answers a length of five bytes, whatever it means.
func lasting(n uint32) []byte {
	return binary.BigEndian.AppendUint32([]byte{255}, n)
}

// same tells whether two lists are of the same packets.
func same(a, b []api.Packet) bool {
	return slices.EqualFunc(a, b, func(p, q api.Packet) bool {
		return p.Tag == q.Tag && bytes.Equal(p.Body, q.Body)
	})
}

// short answers so much of the bytes as a test's line has room for.
func short(b []byte) []byte {
	return b[:min(len(b), 24)]
}

// writes holds that the list is written so.
func writes(t *testing.T, list []api.Packet, want []byte) {
	t.Helper()
	if b, e := Write(list); e != api.OK || !bytes.Equal(b, want) {
		t.Errorf("Write of %d: %d bytes %x, %v, not %d bytes %x", len(list), len(b), short(b), e, len(want), short(want))
	}
}

// unwritten holds that the list isn't written.
func unwritten(t *testing.T, list []api.Packet) {
	t.Helper()
	if b, e := Write(list); e != api.ErrArg || len(b) != 0 {
		t.Errorf("Write of %d: %d bytes %x, %v", len(list), len(b), short(b), e)
	}
}

// parses holds that the bytes are these packets.
func parses(t *testing.T, b []byte, want ...api.Packet) {
	t.Helper()
	list, e := Parse(b)
	if e != api.OK || !same(list, want) {
		t.Errorf("Parse of %d bytes %x: %d packets, %v, not %d", len(b), short(b), len(list), e, len(want))
	}
}

// refuses holds that the bytes answer this error, and no packets.
func refuses(t *testing.T, b []byte, want api.Errno) {
	t.Helper()
	if list, e := Parse(b); e != want || len(list) != 0 {
		t.Errorf("Parse of %d bytes %x: %d packets, %v, not %v", len(b), short(b), len(list), e, want)
	}
}

func TestP11_1Examples(t *testing.T) {
	ab := api.Packet{Tag: 2, Body: []byte("ab")}
	writes(t, []api.Packet{ab}, []byte{0xc2, 0x02, 0x61, 0x62})
	parses(t, []byte{0x88, 0x02, 0x61, 0x62}, ab)
	parses(t, []byte{0xc2, 0x02, 0x61, 0x62}, ab)
}

func TestP11_1Formed(t *testing.T) {
	for _, size := range []int{0, 1, 191, 192, 8383, 8384, api.MaxPacket - 1, api.MaxPacket} {
		for tag := -70; tag < 140; tag++ {
			want := tag >= 1 && tag <= 63
			if Formed(api.Packet{Tag: tag, Body: make([]byte, size)}) != want {
				t.Errorf("tag %d, %d bytes: not %v", tag, size, want)
			}
		}
	}
	for _, size := range []int{api.MaxPacket + 1, api.MaxPacket + 2, 1 << 15, 1 << 16, 1 << 20} {
		for tag := range 65 {
			if Formed(api.Packet{Tag: tag, Body: make([]byte, size)}) {
				t.Errorf("tag %d, %d bytes is formed", tag, size)
			}
		}
	}
}

// A body's spare room counts for nothing, and a body that is nil is one of no bytes; a tag is taken as it is, not modulo 64 or 256.
func TestP11_1FormedOddly(t *testing.T) {
	roomy := make([]byte, api.MaxPacket, 2*api.MaxPacket)
	for _, p := range []api.Packet{{Tag: 1}, {Tag: 63}, {Tag: 1, Body: []byte{}}, {Tag: 2, Body: roomy}, {Tag: 8, Body: roomy[:0]}} {
		if !Formed(p) {
			t.Errorf("tag %d, %d bytes isn't formed", p.Tag, len(p.Body))
		}
	}
	for _, tag := range []int{0, 64, 65, 66, 128, 129, 192, 194, 256, 257, 1 << 16, 1<<16 + 1, 1<<32 + 1, 1 << 62, -1, -63, -64, -255, -1 << 63, -1<<63 + 1} {
		if Formed(api.Packet{Tag: tag}) {
			t.Errorf("tag %d is formed", tag)
		}
		unwritten(t, []api.Packet{{Tag: tag}})
	}
}

func TestP11_1LengthKnown(t *testing.T) {
	for n, want := range map[int]string{
		0: "\x00", 1: "\x01", 190: "\xbe", 191: "\xbf", 192: "\xc0\x00", 193: "\xc0\x01", 447: "\xc0\xff", 448: "\xc1\x00", 511: "\xc1\x3f", 512: "\xc1\x40",
		8382: "\xdf\xfe", 8383: "\xdf\xff", 8384: "\xff\x00\x00\x20\xc0", 8385: "\xff\x00\x00\x20\xc1", 16384: "\xff\x00\x00\x40\x00",
		api.MaxPacket - 1: "\xff\x00\x00\x4e\x1f", api.MaxPacket: "\xff\x00\x00\x4e\x20",
	} {
		if b := Length(n); string(b) != want {
			t.Errorf("%d: %x, not %x", n, b, want)
		}
	}
	for _, n := range []int{-1, -2, -192, -8384, -1 << 31, -1 << 63, api.MaxPacket + 1, 32768, 65535, 65536, 1<<16 + 1, 1 << 31, 1 << 32, 1<<32 + 5, 1 << 62, 1<<63 - 1} {
		if b := Length(n); len(b) != 0 {
			t.Errorf("%d: %x", n, b)
		}
	}
}

// meaning answers what a length means, and whether it is one, by the chapter's words.
func meaning(b []byte) (int, bool) {
	switch {
	case len(b) == 1 && b[0] < 192:
		return int(b[0]), true
	case len(b) == 2 && b[0] >= 192 && b[0]-192 < 32:
		return 256*int(b[0]-192) + int(b[1]) + 192, true
	case len(b) == 5 && b[0] == 255:
		return int(binary.BigEndian.Uint32(b[1:])), true
	}
	return 0, false
}

func TestP11_1LengthEach(t *testing.T) {
	for n := -300; n <= 70000; n++ {
		b := Length(n)
		size := 5
		switch {
		case n < 0 || n > 20000:
			size = 0
		case n <= 191:
			size = 1
		case n <= 8383:
			size = 2
		}
		if len(b) != size {
			t.Errorf("%d: %x", n, b)
		}
		if m, ok := meaning(b); size > 0 && (!ok || m != n) {
			t.Errorf("%d: %x means %d, %v", n, b, m, ok)
		}
	}
}

func TestP11_1WriteNone(t *testing.T) {
	writes(t, nil, nil)
	writes(t, []api.Packet{}, nil)
	writes(t, make([]api.Packet, 0, 5), nil)
}

func TestP11_1WriteEachTag(t *testing.T) {
	var all []api.Packet
	var want []byte
	for tag := 1; tag <= 63; tag++ {
		p := api.Packet{Tag: tag, Body: filled(tag % 5)}
		b := join([]byte{192 + byte(tag), byte(tag % 5)}, p.Body)
		writes(t, []api.Packet{p}, b)
		all, want = append(all, p), append(want, b...)
	}
	writes(t, all, want)
}

func TestP11_1WriteEachLength(t *testing.T) {
	for size, length := range map[int]string{
		0: "\x00", 1: "\x01", 191: "\xbf", 192: "\xc0\x00", 512: "\xc1\x40", 8383: "\xdf\xff", 8384: "\xff\x00\x00\x20\xc0",
		19999: "\xff\x00\x00\x4e\x1f", 20000: "\xff\x00\x00\x4e\x20",
	} {
		// Lengths of those that may be in parts are written as all others are.
		for _, tag := range []int{1, 2, 8, 9, 11, 18, 63} {
			b := filled(size)
			writes(t, []api.Packet{{Tag: tag, Body: b}}, join([]byte{192 + byte(tag)}, []byte(length), b))
		}
	}
}

func TestP11_1WriteSeveral(t *testing.T) {
	long := filled(api.MaxPacket)
	writes(t, []api.Packet{{Tag: 2, Body: []byte("ab")}, {Tag: 63}}, []byte("\xc2\x02ab\xff\x00"))
	writes(t, []api.Packet{{Tag: 63}, {Tag: 1, Body: []byte{}}, {Tag: 63}}, []byte("\xff\x00\xc1\x00\xff\x00"))
	writes(t, []api.Packet{{Tag: 1, Body: long}, {Tag: 1, Body: []byte("x")}, {Tag: 18, Body: long}},
		join([]byte("\xc1\xff\x00\x00\x4e\x20"), long, []byte("\xc1\x01x\xd2\xff\x00\x00\x4e\x20"), long))
	many := slices.Repeat([]api.Packet{{Tag: 5, Body: []byte("ab")}}, 5000)
	writes(t, many, bytes.Repeat([]byte("\xc5\x02ab"), 5000))
}

// One that isn't formed, alone and at each place of others that are.
func TestP11_1WriteNotFormed(t *testing.T) {
	good := []api.Packet{{Tag: 1}, {Tag: 2, Body: []byte("ab")}, {Tag: 63, Body: filled(300)}, {Tag: 18, Body: filled(api.MaxPacket)}}
	for _, bad := range []api.Packet{{}, {Tag: 64}, {Tag: -1}, {Tag: 0, Body: []byte("ab")}, {Tag: 65, Body: []byte("ab")}, {Tag: 1, Body: make([]byte, api.MaxPacket+1)}, {Tag: 0, Body: make([]byte, api.MaxPacket+1)}} {
		unwritten(t, []api.Packet{bad})
		for at := range len(good) + 1 {
			unwritten(t, slices.Insert(slices.Clone(good), at, bad))
		}
	}
	unwritten(t, make([]api.Packet, 3))
}
