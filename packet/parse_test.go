package packet

import (
	"encoding/binary"
	"slices"
	"testing"

	"postilion/api"
)

// parted answers the tags of which a length may be partial.
func parted() []int {
	return []int{8, 9, 11, 18}
}

// legacyOf answers a legacy packet whose length is in 1, 2 or 4 bytes.
func legacyOf(tag, bytes int, body []byte) []byte {
	b := binary.BigEndian.AppendUint32(nil, uint32(len(body)))
	kind := map[int]int{1: 0, 2: 1, 4: 2}[bytes]
	return join([]byte{byte(128 + 4*tag + kind)}, b[4-bytes:], body)
}

// toTheEnd answers a legacy packet that has no length.
func toTheEnd(tag int, body []byte) []byte {
	return join([]byte{byte(128 + 4*tag + 3)}, body)
}

// inParts answers a packet of parts with these powers, and a last one of so many bytes, and its body.
func inParts(tag int, powers []int, last int) ([]byte, api.Packet) {
	b := []byte{byte(192 + tag)}
	var body []byte
	for i, power := range powers {
		part := filled(1<<power + i)[i:]
		b = join(b, []byte{byte(224 + power)}, part)
		body = append(body, part...)
	}
	part := filled(last)
	return join(b, Length(last), part), api.Packet{Tag: tag, Body: append(body, part...)}
}

func TestP11_1ParseNothing(t *testing.T) {
	parses(t, nil)
	parses(t, []byte{})
	parses(t, make([]byte, 0, 9))
}

// Each tag, with a length of each form that means it, also of those that are longer than they need be.
func TestP11_1ParseEachForm(t *testing.T) {
	for tag := 1; tag <= 63; tag++ {
		for _, size := range []int{0, 1, 2, 63, 127, 128, 191, 192, 193, 255, 256, 447, 448, 512, 8383, 8384, 16384, api.MaxPacket - 1, api.MaxPacket} {
			p := api.Packet{Tag: tag, Body: filled(size)}
			first := []byte{byte(192 + tag)}
			parses(t, join(first, lasting(uint32(size)), p.Body), p)
			if size < 192 {
				parses(t, join(first, []byte{byte(size)}, p.Body), p)
			}
			if size >= 192 && size <= 8383 {
				n := size - 192
				parses(t, join(first, []byte{byte(192 + n/256), byte(n % 256)}, p.Body), p)
			}
		}
	}
}

// Each length of one byte and of two means what the chapter says.
func TestP11_1ParseEachLength(t *testing.T) {
	all := filled(8383)
	for n := range 192 {
		parses(t, join([]byte{0xc5, byte(n)}, all[:n]), api.Packet{Tag: 5, Body: all[:n]})
	}
	for a := range 32 {
		for c := range 256 {
			n := 256*a + c + 192
			b := join([]byte{0xc5, byte(192 + a), byte(c)}, all[:n])
			parses(t, b, api.Packet{Tag: 5, Body: all[:n]})
			refuses(t, b[:len(b)-1], api.ErrForm)
		}
	}
}

// Each tag of legacy packets, with a length of each type that has room for it.
func TestP11_1ParseLegacy(t *testing.T) {
	for tag := 1; tag <= 15; tag++ {
		for _, size := range []int{0, 1, 191, 192, 193, 223, 224, 233, 254, 255, 256, 512, 8384, api.MaxPacket} {
			p := api.Packet{Tag: tag, Body: filled(size)}
			if size < 256 {
				parses(t, legacyOf(tag, 1, p.Body), p)
			}
			parses(t, legacyOf(tag, 2, p.Body), p)
			parses(t, legacyOf(tag, 4, p.Body), p)
			parses(t, toTheEnd(tag, p.Body), p)
		}
	}
}

// Each length of one byte of a legacy packet is a plain number, also of the tags that may be in parts.
func TestP11_1ParseLegacyByte(t *testing.T) {
	all := filled(256)
	for _, tag := range []int{2, 8, 9, 11} {
		for n := range 256 {
			b := append(legacyOf(tag, 1, all[:n]), 0xc1, 0)
			parses(t, b, api.Packet{Tag: tag, Body: all[:n]}, api.Packet{Tag: 1})
		}
	}
}

// What goes to the end takes all that is there, be it packets or not, and whatever stands ahead of it.
func TestP11_1ParseToTheEnd(t *testing.T) {
	abc := api.Packet{Tag: 2, Body: []byte("abc\xc1\x00")}
	parses(t, []byte("\x8babc\xc1\x00"), abc)
	parses(t, []byte("\xc1\x00\x8babc\xc1\x00"), api.Packet{Tag: 1}, abc)
	parses(t, []byte("\x88\x01x\xff\x02yz\x8babc\xc1\x00"), api.Packet{Tag: 2, Body: []byte("x")}, api.Packet{Tag: 63, Body: []byte("yz")}, abc)
	parses(t, []byte("\x8b"), api.Packet{Tag: 2})
	parses(t, []byte("\xc1\x00\x8b"), api.Packet{Tag: 1}, api.Packet{Tag: 2})
	parses(t, []byte("\x8b\x00\x7f\x80"), api.Packet{Tag: 2, Body: []byte("\x00\x7f\x80")})
	b, p := inParts(8, []int{9}, 0)
	parses(t, join(b, []byte("\xafxyz")), p, api.Packet{Tag: 11, Body: []byte("xyz")})
}

// Packets of all forms, one behind the other.
func TestP11_1ParseSeveral(t *testing.T) {
	parts, inThree := inParts(11, []int{9, 0}, 3)
	b := join([]byte("\xc2\x02ab"), []byte("\x88\x02ab\x89\x00\x02ab\x8a\x00\x00\x00\x02ab"), parts, []byte("\xff\xc0\x00"), filled(192), parts, []byte("\xc2\xff\x00\x00\x00\x02ab\x8bab"))
	ab := api.Packet{Tag: 2, Body: []byte("ab")}
	parses(t, b, ab, ab, ab, ab, inThree, api.Packet{Tag: 63, Body: filled(192)}, inThree, ab, ab)
	many := slices.Repeat([]byte{0xc7, 1, 9}, 30000)
	parses(t, many, slices.Repeat([]api.Packet{{Tag: 7, Body: []byte{9}}}, 30000)...)
	long := join([]byte("\xc1\xff\x00\x00\x4e\x20"), filled(api.MaxPacket))
	parses(t, slices.Repeat(long, 5), slices.Repeat([]api.Packet{{Tag: 1, Body: filled(api.MaxPacket)}}, 5)...)
}

// A first partial length of each power of two: 1 to 256 are refused for their form, from 32768 on for what they mean; between them they are read.
func TestP11_1ParseFirstPartial(t *testing.T) {
	for _, tag := range parted() {
		for power := range 31 {
			first := []byte{byte(192 + tag), byte(224 + power)}
			switch {
			case power < 9:
				refuses(t, join(first, filled(1<<power), []byte{0}), api.ErrForm)
				refuses(t, first, api.ErrForm)
			case power < 15:
				body := filled(1 << power)
				parses(t, join(first, body, []byte{0}), api.Packet{Tag: tag, Body: body})
				refuses(t, first, api.ErrForm)
			default:
				refuses(t, first, api.ErrLong)
				refuses(t, join(first, filled(1<<15), []byte{0}), api.ErrLong)
			}
		}
	}
}

// One of each power behind another one, also such as a first one mayn't be.
func TestP11_1ParseNextPartial(t *testing.T) {
	for _, tag := range parted() {
		for power := range 31 {
			if power < 15 {
				b, p := inParts(tag, []int{9, power}, 5)
				parses(t, b, p)
				b, p = inParts(tag, []int{9, power, 9, power % 9, 0}, 0)
				if len(p.Body) <= api.MaxPacket {
					parses(t, b, p)
				}
				continue
			}
			b, _ := inParts(tag, []int{9}, 0)
			b[len(b)-1] = byte(224 + power)
			refuses(t, b, api.ErrLong)
			refuses(t, join(b, filled(40000)), api.ErrLong)
		}
	}
}

// The last part's length is of each form, and may mean no bytes.
func TestP11_1ParseLastPart(t *testing.T) {
	for _, tag := range parted() {
		start, p := inParts(tag, []int{9, 1}, 0)
		start = start[:len(start)-1]
		for _, size := range []int{0, 1, 191, 192, 8383, 8384, api.MaxPacket - 514} {
			last := filled(size)
			want := api.Packet{Tag: tag, Body: join(p.Body, last)}
			parses(t, join(start, Length(size), last), want)
			parses(t, join(start, lasting(uint32(size)), last), want)
			parses(t, join(start, lasting(uint32(size)), last, []byte("\xc1\x00")), want, api.Packet{Tag: 1})
		}
	}
}

// Parts that are a byte each, up to a body of MaxPacket, and one byte more.
func TestP11_1ParseSmallParts(t *testing.T) {
	start, p := inParts(18, []int{9}, 0)
	start = start[:len(start)-1]
	rest := filled(api.MaxPacket - 512)
	for _, c := range rest {
		start = append(start, 224, c)
	}
	parses(t, append(slices.Clone(start), 0), api.Packet{Tag: 18, Body: join(p.Body, rest)})
	refuses(t, start, api.ErrForm)
	refuses(t, append(slices.Clone(start), 1), api.ErrLong)
	refuses(t, append(slices.Clone(start), 224), api.ErrLong)
	refuses(t, append(slices.Clone(start), 0, 64), api.ErrForm)
}
