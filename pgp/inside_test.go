package pgp

import (
	"slices"
	"testing"

	"postilion/api"
	"postilion/cert"
)

// Insides that layer 11 refuses.
func TestP17_1InsideNoPackets(t *testing.T) {
	l, o := right(5)
	m := l.modelled()
	inside := m.inside()
	o.opens(t, m.around(inside), l.body, l.time)
	for _, other := range [][]byte{
		nil, {0}, {127}, {0x80, 0}, {0xc0, 0}, {0xc4}, {0xc4, 1}, {0xc4, 0xe0, 0}, []byte("hi"), l.body,
		append([]byte{0}, inside...), inside[1:], append(slices.Clone(inside), 0), append(slices.Clone(inside), 0xd5), append(slices.Clone(inside), 0xd5, 1),
	} {
		o.refuses(t, m.around(other), api.ErrForm)
	}
	for i := range inside {
		o.refuses(t, m.around(inside[:i]), api.ErrForm)
	}
	for _, other := range [][]byte{
		tooLong(), {0xcb, 0xff, 0xff, 0xff, 0xff, 0xff}, {0xad, 0x4e, 0x21}, {0xcb, 0xef},
		append(slices.Clone(inside), tooLong()...), append(tooLong(), inside...), slices.Concat(inside[:72], tooLong(), inside[72:]),
	} {
		o.refuses(t, m.around(other), api.ErrLong)
	}
	o.refuses(t, m.around(slices.Concat(inside, []byte{0}, tooLong())), api.ErrForm)
}

// Insides that aren't three packets of the tags 4, 11 and 2, in this order.
func TestP17_1InsideOtherPackets(t *testing.T) {
	l, o := right(5)
	m := l.modelled()
	a, b, c := api.Packet{Tag: 4, Body: m.announced}, api.Packet{Tag: 11, Body: m.literal}, api.Packet{Tag: 2, Body: m.signature}
	o.opens(t, m.of(a, b, c), l.body, l.time)
	for _, list := range [][]api.Packet{
		{}, {a}, {b}, {c}, {a, b}, {b, c}, {a, c}, {a, a}, {b, b}, {c, c},
		{a, c, b}, {b, a, c}, {b, c, a}, {c, a, b}, {c, b, a}, {a, a, a}, {b, b, b}, {c, c, c}, {a, a, b}, {a, b, b}, {b, b, c}, {a, a, c}, {c, b, c}, {a, b, a},
		{a, b, c, c}, {a, b, b, c}, {a, a, b, c}, {a, b, c, a}, {a, b, c, b}, {c, a, b, c}, {b, a, b, c}, {a, b, c, a, b, c}, {a, a, b, c, c},
	} {
		o.refuses(t, m.of(list...), api.ErrForm)
	}
	// A message inside is none of its packets, nor are the packets behind a message's.
	o.refuses(t, m.around(m.bytes()), api.ErrForm)
	o.refuses(t, m.around(slices.Concat(m.inside(), m.bytes())), api.ErrForm)
	// A signature ahead of what it is of is OpenPGP's, but not the chapter's; so is a literal in a packet of the tag 8, and one without a signature.
	o.refuses(t, m.of(c, b), api.ErrForm)
	o.refuses(t, m.of(api.Packet{Tag: 8, Body: append([]byte{0}, m.inside()...)}), api.ErrForm)
}

// Each other tag in each place, and packets of each tag between them.
func TestP17_1InsideOtherTags(t *testing.T) {
	t.Parallel()
	l, o := right(5)
	m := l.modelled()
	list := []api.Packet{{Tag: 4, Body: m.announced}, {Tag: 11, Body: m.literal}, {Tag: 2, Body: m.signature}}
	for tag := range 64 {
		for i, p := range list {
			other := slices.Clone(list)
			other[i].Tag = tag
			if tag == p.Tag {
				o.opens(t, m.of(other...), l.body, l.time)
			} else {
				o.refuses(t, m.of(other...), api.ErrForm)
			}
			more := api.Packet{Tag: tag, Body: []byte("PGP")}
			o.refuses(t, m.of(slices.Insert(slices.Clone(list), i, more)...), api.ErrForm)
		}
		o.refuses(t, m.of(append(slices.Clone(list), api.Packet{Tag: tag})...), api.ErrForm)
	}
}

// Each fixed byte of the first packet another one, each of the other 255.
func TestP17_1InsideAnnouncedFixed(t *testing.T) {
	t.Parallel()
	l, o := right(5)
	m := l.modelled()
	announced := m.announced
	for _, i := range []int{0, 1, 2, 3, 4, 69} {
		for d := 1; d < 256; d++ {
			m.announced = with(announced, i, byte(d))
			o.refuses(t, m.bytes(), api.ErrForm)
		}
	}
}

// The first packet's bytes that aren't fixed: another salt is told behind the signature, another signer by ErrSig.
func TestP17_1InsideAnnouncedOther(t *testing.T) {
	t.Parallel()
	l, o := right(5)
	m := l.modelled()
	announced := m.announced
	for i := 5; i < 69; i++ {
		want := api.ErrForm
		if i >= 37 {
			want = api.ErrSig
		}
		for bit := range 8 {
			m.announced = with(announced, i, 1<<bit)
			o.refuses(t, m.bytes(), want)
		}
	}
}

// The first packet with another number of bytes: cut off, with more behind it, and with each byte left out or there twice.
func TestP17_1InsideAnnouncedSizes(t *testing.T) {
	t.Parallel()
	l, o := right(5)
	m := l.modelled()
	announced := m.announced
	long := append(slices.Clone(announced), announced...)
	for n := range long {
		m.announced = long[:n]
		if n == 70 {
			o.opens(t, m.bytes(), l.body, l.time)
		} else {
			o.refuses(t, m.bytes(), api.ErrForm)
		}
	}
	for i := range announced {
		m.announced = slices.Delete(slices.Clone(announced), i, i+1)
		o.refuses(t, m.bytes(), api.ErrForm)
		m.announced = slices.Insert(slices.Clone(announced), i, announced[i])
		o.refuses(t, m.bytes(), api.ErrForm)
		// Also if its last byte is a 1.
		m.announced = append(slices.Delete(slices.Clone(announced), i, i+1), 1)
		if i < 69 {
			if e := o.asModelled(t, m.bytes()); e == api.OK {
				t.Errorf("without the byte %d it is opened", i)
			}
		}
	}
	for _, last := range []byte{0, 1} {
		m.announced = append(slices.Clone(announced), last)
		o.refuses(t, m.bytes(), api.ErrForm)
		m.announced = append([]byte{last}, announced...)
		o.refuses(t, m.bytes(), api.ErrForm)
	}
}

// Announcements that OpenPGP knows, but that are none of the chapter's: of version 3, of other hashes with their salts, and of one that has another behind it.
func TestP17_1InsideAnnouncedOtherKinds(t *testing.T) {
	l, o := right(5)
	m := l.modelled()
	salt, signer := l.drawn[3], o.from.Prints[0]
	for _, announced := range [][]byte{
		slices.Concat([]byte{3, 0, 10, 27}, signer[:8], []byte{1}),
		slices.Concat([]byte{6, 0, 8, 27, 16}, salt[:16], signer[:], []byte{1}),
		slices.Concat([]byte{6, 0, 9, 27, 24}, salt[:24], signer[:], []byte{1}),
		slices.Concat([]byte{6, 0, 12, 27, 16}, salt[:16], signer[:], []byte{1}),
		slices.Concat([]byte{6, 0, 10, 27, 16}, salt[:16], signer[:], []byte{1}),
		slices.Concat([]byte{6, 0, 10, 27, 32}, salt[:], signer[:], []byte{0}),
		slices.Concat([]byte{6, 1, 10, 27, 32}, salt[:], signer[:], []byte{1}),
		slices.Concat([]byte{6, 0, 14, 27, 32}, salt[:], signer[:], []byte{1}),
		slices.Concat([]byte{6, 0, 10, 22, 32}, salt[:], signer[:], []byte{1}),
		slices.Concat([]byte{6, 0, 27, 10, 32}, salt[:], signer[:], []byte{1}),
		slices.Concat([]byte{6, 0, 10, 27, 32}, salt[:], []byte{6}, signer[:], []byte{1}),
		slices.Concat([]byte{6, 0, 10, 27}, salt[:], signer[:], []byte{1}),
	} {
		m.announced = announced
		o.refuses(t, m.bytes(), api.ErrForm)
	}
	// Salt and signer changed over: it is somebody else who will sign.
	m.announced = slices.Concat([]byte{6, 0, 10, 27, 32}, signer[:], salt[:], []byte{1})
	o.refuses(t, m.bytes(), api.ErrSig)
}

// Each fixed byte of the literal another one, each of the other 255.
func TestP17_1InsideLiteralFixed(t *testing.T) {
	t.Parallel()
	l, o := right(5)
	m := l.modelled()
	literal := m.literal
	for i := range 6 {
		for d := 1; d < 256; d++ {
			m.literal = with(literal, i, byte(d))
			o.refuses(t, m.bytes(), api.ErrForm)
		}
	}
}

// Literals of too few bytes, a byte short or long, and with a name or a time; each is signed as what its body would be.
func TestP17_1InsideLiteralSizes(t *testing.T) {
	l, o := right(5)
	m := l.modelled()
	literal := m.literal
	for n := range 6 {
		m.literal = literal[:n]
		o.refuses(t, m.bytes(), api.ErrForm)
	}
	for n := 6; n < len(literal); n++ {
		m.literal = literal[:n]
		o.refuses(t, m.bytes(), api.ErrSig)
	}
	for i := range 6 {
		m.literal = slices.Delete(slices.Clone(literal), i, i+1)
		o.refuses(t, m.bytes(), api.ErrForm)
	}
	m.literal = append([]byte{'b'}, literal...)
	o.refuses(t, m.bytes(), api.ErrForm)
	m.literal = append([]byte{0}, literal...)
	o.refuses(t, m.bytes(), api.ErrForm)
	m.literal = append(slices.Clone(literal), 0)
	o.refuses(t, m.bytes(), api.ErrSig)
	// A nought more is one of the body, which isn't what was signed.
	m.literal = slices.Insert(slices.Clone(literal), 6, 0)
	o.refuses(t, m.bytes(), api.ErrSig)
	for _, head := range []string{"t\x00\x00\x00\x00\x00", "u\x00\x00\x00\x00\x00", "b\x01a\x00\x00\x00\x00", "b\x08_CONSOLE\x00\x00\x00\x00", "b\x00\x00\x00\x00\x01", "b\x00\x65\x00\x00\x00", "B\x00\x00\x00\x00\x00", "b\x00\x00\x00\x00", ""} {
		m.literal = append([]byte(head), l.body...)
		o.refuses(t, m.bytes(), api.ErrForm)
	}
}

// A body that begins with noughts, or as a literal does, is a body.
func TestP17_1InsideLiteralBodies(t *testing.T) {
	l, o := right(0)
	for _, body := range []string{"", "\x00", "\x00\x00\x00\x00\x00\x00\x00", "b", "b\x00\x00\x00\x00\x00", "b\x00\x00\x00\x00\x00hi"} {
		l.body = []byte(body)
		m := l.modelled()
		o.opens(t, m.bytes(), l.body, l.time)
		m.literal = m.literal[1:]
		o.refuses(t, m.bytes(), api.ErrForm)
	}
	// One nought fewer ahead of a body of noughts is a body of one nought fewer.
	l.body = make([]byte, 7)
	m := l.modelled()
	m.literal = m.literal[:len(m.literal)-1]
	o.refuses(t, m.bytes(), api.ErrSig)
}

// An inside that names another signer's first fingerprint.
func TestP17_1InsideOtherSigner(t *testing.T) {
	l, o := right(5)
	b := l.modelled().bytes()
	d := drawnBy(30)
	for bit := range 256 {
		other := o
		other.from.Prints[0][bit/8] ^= 1 << (bit % 8)
		other.refuses(t, b, api.ErrSig)
	}
	for _, from := range []cert.Cert{
		{}, cert.Of(d.key(), l.fromTime), cert.Of(o.k, o.kTime), cert.Of(l.from, l.fromTime+1), cert.Of(l.from, 0),
		{Time: o.from.Time, Sign: o.from.Sign, Box: o.from.Box, Prints: [2][32]byte{o.from.Prints[1], o.from.Prints[0]}},
		{Time: o.from.Time, Sign: o.from.Sign, Box: o.from.Box, Prints: [2][32]byte{{}, o.from.Prints[1]}},
	} {
		opener{k: o.k, kTime: o.kTime, from: from}.refuses(t, b, api.ErrSig)
	}
	// Somebody else who says to be whom the certificate is of, or who doesn't.
	other := l
	other.from = d.key()
	m := other.modelled()
	o.refuses(t, m.bytes(), api.ErrSig)
	m.announced = l.modelled().announced
	o.refuses(t, m.bytes(), api.ErrForm)
	m.announced, m.signature = other.modelled().announced, l.modelled().signature
	o.refuses(t, m.bytes(), api.ErrSig)
}

// Of the signer's certificate, Open looks at the key that signs and at the first fingerprint alone.
func TestP17_1OpenLooksAtNoMore(t *testing.T) {
	l, o := right(5)
	b := l.modelled().bytes()
	d := drawnBy(31)
	for _, change := range []func(*cert.Cert){
		func(c *cert.Cert) { c.Time++ },
		func(c *cert.Cert) { c.Box = d.array() },
		func(c *cert.Cert) { c.Prints[1] = d.array() },
		func(c *cert.Cert) { *c = cert.Cert{Sign: c.Sign, Prints: [2][32]byte{c.Prints[0]}} },
	} {
		other := o
		change(&other.from)
		other.opens(t, b, l.body, l.time)
	}
	// So the fingerprint need not be that of the key.
	print := d.array()
	m := l.modelled()
	copy(m.announced[37:], print[:])
	m.signature = modelledSignature(l.from, 0, l.time, l.drawn[3], print, l.body)
	o.refuses(t, m.bytes(), api.ErrSig)
	o.from.Prints[0] = print
	o.opens(t, m.bytes(), l.body, l.time)
}

// Signatures that Check doesn't verify: ErrSig.
func TestP17_1InsideWrongSignatures(t *testing.T) {
	l, o := right(5)
	right := l.modelled()
	signer, salt := o.from.Prints[0], l.drawn[3]
	d := drawnBy(32)
	for _, body := range [][]byte{nil, {0}, l.body[:4], append(slices.Clone(l.body), 0), with(l.body, 0, 1), with(l.body, 4, 128), right.literal, right.announced, right.inside()} {
		// Of another body, and another body than what was signed.
		m := right
		m.signature = modelledSignature(l.from, 0, l.time, salt, signer, body)
		o.refuses(t, m.bytes(), api.ErrSig)
		m = right
		m.literal = modelledLiteral(body)
		o.refuses(t, m.bytes(), api.ErrSig)
	}
	// Of another time than what was signed.
	for i := 10; i < 14; i++ {
		for bit := range 8 {
			m := right
			m.signature = with(right.signature, i, 1<<bit)
			o.refuses(t, m.bytes(), api.ErrSig)
		}
	}
	// By another key.
	for _, k := range []api.Key{{}, o.k, {Sign: l.from.Box, Box: l.from.Sign}, d.key()} {
		m := right
		m.signature = modelledSignature(k, 0, l.time, salt, signer, l.body)
		o.refuses(t, m.bytes(), api.ErrSig)
	}
	// Under another key, also one of small order, or one that is no point.
	for _, sign := range [][32]byte{{}, {1}, full(), {2}, o.from.Box, [32]byte(modelledSign(o.k)), d.array()} {
		other := o
		other.from.Sign = sign
		other.refuses(t, right.bytes(), api.ErrSig)
	}
	// The hash's first bytes, the salt in the signature, and the signature itself.
	for _, i := range []int{53, 54, 56, 70, 87, 88, 100, 119, 120, 151} {
		m := right
		m.signature = with(right.signature, i, 1)
		o.refuses(t, m.bytes(), api.ErrSig)
	}
}

// What is no signature packet's of that type and signer: ErrForm.
func TestP17_1InsideNoSignatures(t *testing.T) {
	l, o := right(5)
	right := l.modelled()
	signer, salt := o.from.Prints[0], l.drawn[3]
	try := func(signature []byte) {
		t.Helper()
		m := right
		m.signature = signature
		o.refuses(t, m.bytes(), api.ErrForm)
	}
	for n := range 200 {
		if n != 152 {
			try(append(slices.Clone(right.signature), make([]byte, 50)...)[:n])
		}
	}
	for i := range right.signature {
		switch {
		case i >= 10 && i < 14, i == 53, i == 54, i >= 56:
			continue
		}
		for bit := range 8 {
			try(with(right.signature, i, 1<<bit))
		}
	}
	// Rightly signed, but of another type, or as somebody else.
	for kind := 1; kind < 256; kind++ {
		try(modelledSignature(l.from, byte(kind), l.time, salt, signer, l.body))
	}
	for _, other := range [][32]byte{{}, full(), o.from.Prints[1], salt, cert.Of(o.k, o.kTime).Prints[0]} {
		try(modelledSignature(l.from, 0, l.time, salt, other, l.body))
	}
	// A message as text: of the type 1, announced so or not.
	m := right
	m.signature = modelledSignature(l.from, 1, l.time, salt, signer, l.body)
	m.announced = with(m.announced, 1, 1)
	o.refuses(t, m.bytes(), api.ErrForm)
}

// Rightly signed, but with another salt than the first packet's.
func TestP17_1InsideOtherSalts(t *testing.T) {
	l, o := right(5)
	right := l.modelled()
	signer, salt := o.from.Prints[0], l.drawn[3]
	others := [][32]byte{{}, full(), signer, l.drawn[2], drawnBy(33).array()}
	for i := range salt {
		other := salt
		other[i] ^= 1
		others = append(others, other)
	}
	for _, other := range others {
		m := right
		m.signature = modelledSignature(l.from, 0, l.time, other, signer, l.body)
		if time, e := cert.Check(o.from.Sign, signer, m.signature, 0, l.body); e != api.OK || time != l.time {
			t.Fatal(time, e)
		}
		o.refuses(t, m.bytes(), api.ErrForm)
		m.announced = slices.Concat(m.announced[:5], other[:], m.announced[37:])
		o.opens(t, m.bytes(), l.body, l.time)
		m.signature = right.signature
		o.refuses(t, m.bytes(), api.ErrForm)
	}
}

// The time is the signature's, whatever it is.
func TestP17_1InsideTimes(t *testing.T) {
	l, o := right(5)
	for _, time := range []uint32{0, 1, 255, 256, 65536, 1 << 24, 0x01020304, 1 << 31, 4294967295} {
		m := l.modelled()
		m.signature = modelledSignature(l.from, 0, time, l.drawn[3], o.from.Prints[0], l.body)
		o.opens(t, m.bytes(), l.body, time)
	}
}
