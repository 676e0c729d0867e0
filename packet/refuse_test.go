package packet

import (
	"bytes"
	"slices"
	"testing"

	"postilion/api"
)

// Only the tags 8, 9, 11 and 18 may be in parts: of others a partial length is none, whatever it means.
func TestP11_1PartialTags(t *testing.T) {
	for tag := 1; tag <= 63; tag++ {
		b, p := inParts(tag, []int{9}, 3)
		if slices.Contains(parted(), tag) {
			parses(t, b, p)
			refuses(t, []byte{byte(192 + tag), 254}, api.ErrLong)
			continue
		}
		refuses(t, b, api.ErrForm)
		for c := 224; c < 255; c++ {
			refuses(t, []byte{byte(192 + tag), byte(c)}, api.ErrForm)
			refuses(t, join([]byte{byte(192 + tag), byte(c)}, filled(600)), api.ErrForm)
		}
	}
}

// A first byte below 128 is none, alone, ahead of others and behind them.
func TestP11_1FirstByte(t *testing.T) {
	for c := range byte(128) {
		refuses(t, []byte{c}, api.ErrForm)
		refuses(t, []byte{c, 0}, api.ErrForm)
		refuses(t, []byte{c, 2, 'a', 'b'}, api.ErrForm)
		refuses(t, []byte{c, 255, 255, 255, 255, 255}, api.ErrForm)
		refuses(t, []byte{0xc1, 0, c, 0}, api.ErrForm)
		refuses(t, []byte{0x84, 0, c}, api.ErrForm)
		refuses(t, []byte{c, 0, 0xc1, 0}, api.ErrForm)
	}
}

// Each first byte from 128 on, ahead of a 0: it is one of no bytes, if its tag isn't 0 and that is a whole length.
func TestP11_1EachFirstByte(t *testing.T) {
	for c := 128; c < 256; c++ {
		b := []byte{byte(c), 0}
		switch {
		case c == 192 || c < 132:
			refuses(t, b, api.ErrForm)
		case c > 192:
			parses(t, b, api.Packet{Tag: c - 192})
		case c%4 == 0:
			parses(t, b, api.Packet{Tag: c / 4 % 16})
		case c%4 == 3:
			parses(t, b, api.Packet{Tag: c / 4 % 16, Body: []byte{0}})
		default:
			refuses(t, b, api.ErrForm)
		}
	}
}

// The tag 0 in both forms, with whatever length: it is met ahead of that.
func TestP11_1TagNought(t *testing.T) {
	for _, first := range []byte{192, 128, 129, 130, 131} {
		for _, behind := range []string{"", "\x00", "\x00\x00", "\x00\x00\x00\x00", "\x02ab", "\x00\x02ab", "\x00\x00\x00\x02ab", "\xff\x00\x00\x4e\x21", "\xff\xff\xff\xff\xff", "\xef", "\xfe", "\x4e\x21", string(filled(api.MaxPacket + 1))} {
			refuses(t, join([]byte{first}, []byte(behind)), api.ErrForm)
			refuses(t, join([]byte{0xc1, 0, first}, []byte(behind)), api.ErrForm)
		}
	}
}

// Bytes of all forms, cut off at each place: what is left is whole packets at their ends alone.
func TestP11_1CutOff(t *testing.T) {
	parts, inFour := inParts(9, []int{9, 0, 3}, 200)
	pieces := [][]byte{[]byte("\xc2\x02ab"), []byte("\x88\x02ab"), join([]byte("\xc5\xc0\x08"), filled(200)), []byte("\x89\x00\x02ab"), []byte("\x8a\x00\x00\x00\x02ab"), parts, []byte("\xff\xff\x00\x00\x00\x02ab"), []byte("\xc1\x00")}
	ab := api.Packet{Tag: 2, Body: []byte("ab")}
	want := []api.Packet{ab, ab, {Tag: 5, Body: filled(200)}, ab, ab, inFour, {Tag: 63, Body: []byte("ab")}, {Tag: 1}}
	all := join(pieces...)
	parses(t, all, want...)
	ends := map[int]int{0: 0}
	at := 0
	for i, piece := range pieces {
		at += len(piece)
		ends[at] = i + 1
	}
	for n := range len(all) {
		if i, ok := ends[n]; ok {
			parses(t, all[:n], want[:i]...)
		} else {
			refuses(t, all[:n], api.ErrForm)
		}
	}
	for n := range len(parts) {
		parses(t, toTheEnd(3, parts[:n]), api.Packet{Tag: 3, Body: parts[:n]})
	}
}

// Lengths of all forms are cut off behind each of their bytes, also where those that are there are 255.
func TestP11_1LengthCutOff(t *testing.T) {
	for _, start := range []string{"\xc2", "\xcb", "\xc2\xc0", "\xc2\xdf", "\xc2\xff", "\xc2\xff\xff", "\xc2\xff\xff\xff", "\xc2\xff\xff\xff\xff", "\xff", "\x88", "\x89", "\x89\xff", "\x8a", "\x8a\xff", "\x8a\xff\xff\xff"} {
		refuses(t, []byte(start), api.ErrForm)
		refuses(t, []byte("\xc1\x00"+start), api.ErrForm)
		parts, _ := inParts(11, []int{9}, 0)
		refuses(t, append(parts, start...), api.ErrForm)
	}
	parts, _ := inParts(11, []int{9}, 0)
	parts = parts[:len(parts)-1]
	for _, length := range []string{"", "\xc0", "\xdf", "\xff", "\xff\xff", "\xff\xff\xff\xff", "\x01", "\xe0", "\xe0x", "\xe9", "\xed"} {
		refuses(t, append(slices.Clone(parts), length...), api.ErrForm)
	}
}

// Numbers above MaxPacket, whose bytes are there and aren't.
func TestP11_1TooLong(t *testing.T) {
	room := filled(70000)
	for _, n := range []uint32{api.MaxPacket + 1, api.MaxPacket + 2, 32768, 65535, 65536, 69999, 1 << 24, 1<<31 - 1, 1 << 31, 1<<31 + 1, 1<<32 - 1} {
		for _, start := range [][]byte{join([]byte{0xc2}, lasting(n)), join([]byte{0xcb}, lasting(n)), join([]byte{0x8a}, lasting(n)[1:]), join([]byte{0xae}, lasting(n)[1:])} {
			for _, size := range []int{0, 1, api.MaxPacket, min(int(n), 70000)} {
				refuses(t, join(start, room[:size]), api.ErrLong)
				refuses(t, join([]byte("\xc1\x01x"), start, room[:size]), api.ErrLong)
			}
		}
	}
	for _, n := range []int{api.MaxPacket + 1, 32768, 65535} {
		for _, size := range []int{0, 1, api.MaxPacket, n, 70000} {
			refuses(t, join([]byte{0x89, byte(n >> 8), byte(n)}, room[:size]), api.ErrLong)
		}
		refuses(t, toTheEnd(2, room[:n]), api.ErrLong)
		refuses(t, join([]byte("\xc1\x00"), toTheEnd(11, room[:n])), api.ErrLong)
	}
	parses(t, toTheEnd(2, room[:api.MaxPacket]), api.Packet{Tag: 2, Body: room[:api.MaxPacket]})
}

// Parts that are more than MaxPacket together: the length that makes them so is refused, whether its bytes are there or not, and in whatever form.
func TestP11_1PartsTooLong(t *testing.T) {
	for _, powers := range [][]int{{14}, {13, 13}, {13, 12, 11}, {9, 14}, {14, 9, 10, 11}, {14, 11, 10, 7, 5}} {
		b, p := inParts(18, powers, 0)
		b = b[:len(b)-1]
		left := api.MaxPacket - len(p.Body)
		whole := join(b, Length(left), filled(left))
		parses(t, whole, api.Packet{Tag: 18, Body: join(p.Body, filled(left))})
		for _, length := range [][]byte{Length(left + 1), lasting(uint32(left + 1)), lasting(1<<32 - 1), Length(api.MaxPacket), {224 + 14}, {254}} {
			refuses(t, join(b, length), api.ErrLong)
			refuses(t, join(b, length, filled(left)), api.ErrLong)
			refuses(t, join(b, length, filled(left+1)), api.ErrLong)
			refuses(t, join(b, length, filled(40000)), api.ErrLong)
		}
		refuses(t, join(b, lasting(uint32(left)), filled(left))[:len(b)+4], api.ErrForm)
		refuses(t, whole[:len(whole)-1], api.ErrForm)
	}
}

// Of both errors the one that is met first, from the first byte on, in one packet and from packet to packet.
func TestP11_1WhichComesFirst(t *testing.T) {
	long, form := "\xc2\xff\x00\x00\x4e\x21", "\x00"
	part := "\xcb\xe9" + string(filled(512))
	for s, want := range map[string]api.Errno{
		long + form:                                 api.ErrLong,
		form + long:                                 api.ErrForm,
		"\xc1\x00" + long + form:                    api.ErrLong,
		"\xc1\x00" + form + long:                    api.ErrForm,
		"\xc1\x06" + long + form:                    api.ErrForm,
		"\xc1\x07" + long + form:                    api.OK,
		"\xc1\x08" + long + form:                    api.ErrForm,
		"\x8a\x00\x00\x4e\x21" + form:               api.ErrLong,
		"\x80\x8a\x00\x00\x4e\x21":                  api.ErrForm,
		"\xc0\xff\x00\x00\x4e\x21":                  api.ErrForm,
		"\xc2\xef":                                  api.ErrForm,
		"\xcb\xef":                                  api.ErrLong,
		"\xcb\xe8":                                  api.ErrForm,
		"\xcb\xe9\xef":                              api.ErrForm,
		"\xcb\xee" + part + "\xee":                  api.ErrForm,
		part + "\xef":                               api.ErrLong,
		part + "\xee\xef":                           api.ErrForm,
		part + "\xff\x00\x00\x4c\x21":               api.ErrLong,
		part + "\xff\x00\x00\x4c\x20":               api.ErrForm,
		part + "\xff\x00\x00\x4c":                   api.ErrForm,
		part[:len(part)-1] + "\xff\xff":             api.ErrForm,
		part + "\x00" + long:                        api.ErrLong,
		part + "\x00" + form + long:                 api.ErrForm,
		part + "\x00\xcb\xe8" + long:                api.ErrForm,
		"\x83" + string(filled(30000)):              api.ErrForm,
		"\x87" + string(filled(30000)):              api.ErrLong,
		"\x8b" + form + long:                        api.OK,
		string(bytes.Repeat([]byte{192}, 9)):        api.ErrForm,
		string(bytes.Repeat([]byte{255}, 6)):        api.ErrLong,
		string(bytes.Repeat([]byte{255}, 5)):        api.ErrForm,
		"\xcb\xee" + string(filled(1<<14-1)):        api.ErrForm,
		"\xcb\xee" + string(filled(1<<14)):          api.ErrForm,
		"\xcb\xee" + string(filled(1<<14)) + "\xee": api.ErrLong,
	} {
		if _, e := Parse([]byte(s)); e != want {
			t.Errorf("%d bytes %x: %v, not %v", len(s), short([]byte(s)), e, want)
		}
	}
}
