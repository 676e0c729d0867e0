package packet

import (
	"postilion/api"
)

// minPartial is the least number that the first partial length of a packet may mean.
const minPartial = 512

// toEnd is the kind of a legacy packet without a length: it goes to the end.
const toEnd = 3

// A reader is what is still to be read. Its numbers have 64 bits: a length of four bytes needs 32 of them and no sign.
type reader struct {
	rest []byte
}

// packet reads the next one. What is wrong with its first byte is told ahead of what is wrong with its length.
func (r *reader) packet() (api.Packet, api.Errno) {
	c, ok := r.number(1)
	if !ok || c < legacy {
		return api.Packet{}, api.ErrForm
	}
	tag := int(c & maxTag)
	if c < modern {
		tag >>= 2
	}
	if tag == 0 {
		return api.Packet{}, api.ErrForm
	}
	body, e := r.body(c, tag)
	if e != api.OK {
		return api.Packet{}, e
	}
	return api.Packet{Tag: tag, Body: body}, api.OK
}

// body reads the lengths and the bytes of a packet with this first byte and tag.
func (r *reader) body(c uint64, tag int) ([]byte, api.Errno) {
	if c < modern {
		return r.legacyBody(c & 3)
	}
	return r.modernBody(mayBePartial(tag))
}

// legacyBody reads a body whose length is of this kind.
func (r *reader) legacyBody(kind uint64) ([]byte, api.Errno) {
	if kind == toEnd {
		return r.extend(nil, uint64(len(r.rest)))
	}
	n, ok := r.number(1 << kind)
	if !ok {
		return nil, api.ErrForm
	}
	return r.extend(nil, n)
}

// modernBody reads a body: parts with partial lengths, if it may have them, and a last one.
func (r *reader) modernBody(inParts bool) ([]byte, api.Errno) {
	var body []byte
	for {
		n, isPartial, ok := r.length()
		// Without any bytes yet it is the first length: a part ahead of it would have had some.
		if !ok || isPartial && (!inParts || len(body) == 0 && n < minPartial) {
			return nil, api.ErrForm
		}
		var e api.Errno
		body, e = r.extend(body, n)
		if e != api.OK || !isPartial {
			return body, e
		}
	}
}

// length reads a length, and tells whether it is a partial one, and whether it is there.
func (r *reader) length() (n uint64, isPartial, ok bool) {
	c, ok := r.number(1)
	switch {
	case c < twoBytes:
		return c, false, ok
	case c < partial:
		low, ok := r.number(1)
		return (c-twoBytes)<<8 + low + minTwo, false, ok
	case c < fiveBytes:
		return 1 << (c & 31), true, true
	}
	n, ok = r.number(4)
	return n, false, ok
}

// extend reads n bytes behind those that the body has. Whether they are too many is asked ahead of whether they are there.
func (r *reader) extend(body []byte, n uint64) ([]byte, api.Errno) {
	if uint64(len(body))+n > api.MaxPacket {
		return nil, api.ErrLong
	}
	part, ok := r.take(int(n))
	if !ok {
		return nil, api.ErrForm
	}
	return append(body, part...), api.OK
}

// number reads n bytes as a number, its highest byte first; 0 and false, if they aren't there.
func (r *reader) number(n int) (uint64, bool) {
	b, ok := r.take(n)
	var v uint64
	for _, c := range b {
		v = v<<8 | uint64(c)
	}
	return v, ok
}

// take reads n bytes; none and false, if they aren't there.
func (r *reader) take(n int) ([]byte, bool) {
	if n > len(r.rest) {
		return nil, false
	}
	b := r.rest[:n]
	r.rest = r.rest[n:]
	return b, true
}

// mayBePartial tells whether packets of a tag may come in parts: those of data.
func mayBePartial(tag int) bool {
	switch tag {
	case 8, 9, 11, 18:
		return true
	}
	return false
}
