package pgp

import (
	"bytes"
	"slices"
	"testing"

	"postilion/api"
	"postilion/cert"
)

// with answers the bytes with the one at i another one.
func with(b []byte, i int, d byte) []byte {
	b = slices.Clone(b)
	b[i] ^= d
	return b
}

// tooLong begins a packet whose length is above MaxPacket.
func tooLong() []byte {
	return []byte{0xc2, 0xff, 0, 0, 0x4e, 0x21}
}

func TestP17_1OpenHolds(t *testing.T) {
	for _, n := range []int{0, 1, 5, 185, 186, 789, 790, 2400} {
		l, o := right(n)
		b := l.modelled().bytes()
		o.opens(t, b, l.body, l.time)
		if e := o.asModelled(t, b); e != api.OK {
			t.Error(e)
		}
	}
}

// More than Seal takes: as much as a packet of layer 11 has room for, by any c.
func TestP17_1OpenLongBodies(t *testing.T) {
	for _, n := range []int{2401, 2402, 8191, 8376, 8377, 8378, 10000, 10001, 15000, 19690, 19694} {
		l, o := right(n)
		m := l.modelled()
		m.c = 10
		o.opens(t, m.bytes(), l.body, l.time)
	}
	l, o := right(19695)
	m := l.modelled()
	m.c = 10
	o.refuses(t, m.bytes(), api.ErrLong)
}

func TestP17_1OpenChunks(t *testing.T) {
	l, o := right(2400)
	for c := range byte(11) {
		m := l.modelled()
		m.c = c
		o.opens(t, m.bytes(), l.body, l.time)
	}
	for c := byte(11); c < 30; c++ {
		m := l.modelled()
		m.c = c
		o.refuses(t, m.bytes(), api.ErrKind)
	}
}

// Layer 11 reads other forms too: legacy ones, longer lengths, and parts; outside and inside.
func TestP17_1OpenOtherForms(t *testing.T) {
	l, o := right(700)
	m := l.modelled()
	inside, sealed := m.inside(), m.sealed(m.inside())
	four := func(n int) []byte { return []byte{0, 0, byte(n >> 8), byte(n)} }
	first, second := written(1, m.forWhom), written(18, sealed)
	for _, other := range [][]byte{
		slices.Concat([]byte{0x84, 109}, m.forWhom), slices.Concat([]byte{0x85, 0, 109}, m.forWhom), slices.Concat([]byte{0x86, 0, 0, 0, 109}, m.forWhom), slices.Concat([]byte{0xc1, 255, 0, 0, 0, 109}, m.forWhom),
	} {
		o.opens(t, slices.Concat(other, second), l.body, l.time)
	}
	// The first packet to the end is the only one.
	o.refuses(t, slices.Concat([]byte{0x87}, m.forWhom, second), api.ErrForm)
	o.opens(t, slices.Concat(first, []byte{0xd2, 255}, four(len(sealed)), sealed), l.body, l.time)
	o.opens(t, slices.Concat(first, []byte{0xd2, 0xe9}, sealed[:512], []byte{0xe1}, sealed[512:514], []byte{255}, four(len(sealed)-514), sealed[514:]), l.body, l.time)
	o.refuses(t, slices.Concat(first, []byte{0xd2, 0xe8}, sealed[:256], []byte{255}, four(len(sealed)-256), sealed[256:]), api.ErrForm)
	a, b, c := written(4, m.announced), written(11, m.literal), written(2, m.signature)
	for _, other := range [][]byte{
		inside,
		slices.Concat([]byte{0x90, 70}, m.announced, b, c), slices.Concat([]byte{0x91, 0, 70}, m.announced, b, c), slices.Concat([]byte{0xc4, 255, 0, 0, 0, 70}, m.announced, b, c),
		slices.Concat(a, []byte{0xad, 2, 0xc2}, m.literal, c), slices.Concat(a, []byte{0xcb, 255}, four(706), m.literal, c),
		slices.Concat(a, []byte{0xcb, 0xe9}, m.literal[:512], []byte{0xe0}, m.literal[512:513], []byte{192, 1}, m.literal[513:], c),
		slices.Concat(a, b, []byte{0x88, 152}, m.signature), slices.Concat(a, b, []byte{0x8b}, m.signature), slices.Concat(a, b, []byte{0xc2, 255, 0, 0, 0, 152}, m.signature),
	} {
		o.opens(t, m.around(other), l.body, l.time)
	}
	o.refuses(t, m.around(slices.Concat(a, []byte{0xcb, 0xe8}, m.literal[:256], []byte{255}, four(450), m.literal[256:], c)), api.ErrForm)
	o.refuses(t, m.around(slices.Concat(a, []byte{0xaf}, m.literal, c)), api.ErrForm)
}

// Bytes that layer 11 refuses.
func TestP17_1OpenNoPackets(t *testing.T) {
	l, o := right(5)
	b := l.modelled().bytes()
	for _, other := range [][]byte{
		{0}, {1}, []byte("hi"), {127, 255}, {0x80, 0}, {0xc0, 0}, {0xc1}, {0xc1, 1}, {0xc1, 0xe0, 0}, {0xc1, 0xff, 0, 0, 0}, {0xc1, 0xff, 0, 0, 0x4e, 0x20},
		[]byte("-----BEGIN PGP MESSAGE-----\n"), append([]byte{0}, b...), b[1:], b[2:], b[112:], make([]byte, 418), bytes.Repeat([]byte{255}, 4),
	} {
		o.refuses(t, other, api.ErrForm)
	}
	for _, other := range [][]byte{
		tooLong(), {0xc1, 0xff, 0, 0, 0x4e, 0x21}, {0xd2, 0xff, 0xff, 0xff, 0xff, 0xff}, {0x85, 0x4e, 0x21}, {0x86, 0x80, 0, 0, 0}, {0xd2, 0xef}, {0xd2, 0xfe},
		append(tooLong(), b...), slices.Concat(b[:111], tooLong(), b[111:]), bytes.Repeat([]byte{255}, 418),
		append([]byte{0x87}, make([]byte, 20001)...), append([]byte{0xc2, 0}, tooLong()...),
	} {
		o.refuses(t, other, api.ErrLong)
	}
}

// Packets that aren't two, of the tags 1 and 18, in this order.
func TestP17_1OpenOtherPackets(t *testing.T) {
	l, o := right(5)
	m := l.modelled()
	first, second := written(1, m.forWhom), written(18, m.sealed(m.inside()))
	o.opens(t, slices.Concat(first, second), l.body, l.time)
	for _, other := range [][]byte{
		nil, {}, first, second, slices.Concat(second, first), slices.Concat(first, first), slices.Concat(second, second),
		slices.Concat(first, first, second), slices.Concat(first, second, second), slices.Concat(first, second, first), slices.Concat(first, second, first, second),
		m.inside(), slices.Concat(first, m.inside()), slices.Concat(first, second, m.inside()), slices.Concat(m.inside(), first, second),
	} {
		o.refuses(t, other, api.ErrForm)
	}
	for tag := range byte(64) {
		other := written(tag, m.sealed(m.inside()))
		if tag == 18 {
			o.opens(t, slices.Concat(first, other), l.body, l.time)
		} else {
			o.refuses(t, slices.Concat(first, other), api.ErrForm)
		}
		other = written(tag, m.forWhom)
		if tag == 1 {
			o.opens(t, slices.Concat(other, second), l.body, l.time)
		} else {
			o.refuses(t, slices.Concat(other, second), api.ErrForm)
		}
		// Not even one that OpenPGP says is to be left out: a marker, padding, or one that is for private use.
		for _, body := range [][]byte{nil, []byte("PGP"), m.forWhom} {
			third := written(tag, body)
			o.refuses(t, slices.Concat(third, first, second), api.ErrForm)
			o.refuses(t, slices.Concat(first, third, second), api.ErrForm)
			o.refuses(t, slices.Concat(first, second, third), api.ErrForm)
		}
	}
}

// By whom it isn't for: another key, or the same one of another time.
func TestP17_1OpenOtherKeys(t *testing.T) {
	l, o := right(5)
	b := l.modelled().bytes()
	d := drawnBy(20)
	for _, k := range []api.Key{{}, {Sign: full(), Box: full()}, {Sign: o.k.Box, Box: o.k.Sign}, {Sign: o.k.Sign}, l.from, d.key(), d.key()} {
		opener{k: k, kTime: o.kTime, from: o.from}.refuses(t, b, api.ErrNone)
	}
	for bit := range 256 {
		other := o
		other.k.Box[bit/8] ^= 1 << (bit % 8)
		if bit < 3 || bit > 253 {
			// X25519 clears or sets these.
			other.opens(t, b, l.body, l.time)
		} else {
			other.refuses(t, b, api.ErrNone)
		}
	}
	for bit := range 32 {
		other := o
		other.kTime ^= 1 << bit
		other.refuses(t, b, api.ErrNone)
	}
	for _, time := range []uint32{0, 1, l.time, l.fromTime, o.kTime + 1, o.kTime - 1, 4294967295} {
		opener{k: o.k, kTime: time, from: o.from}.refuses(t, b, api.ErrNone)
	}
	// What k signs with has no part in it.
	for _, sign := range [][32]byte{{}, full(), d.array()} {
		o.k.Sign = sign
		o.opens(t, b, l.body, l.time)
	}
}

// What layer 15 refuses: a body that is none, one for another key, a drawn public key of small order, and a session key that isn't wrapped so.
func TestP17_1OpenOtherSessions(t *testing.T) {
	l, o := right(5)
	right := l.modelled()
	try := func(forWhom []byte, want api.Errno) {
		t.Helper()
		m := right
		m.forWhom = forWhom
		o.refuses(t, m.bytes(), want)
	}
	for n := range 150 {
		if n != 109 {
			try(append(slices.Clone(right.forWhom), make([]byte, 50)...)[:n], api.ErrForm)
		}
	}
	for _, small := range smalls() {
		try(slices.Concat(right.forWhom[:36], small[:], right.forWhom[68:]), api.ErrForm)
	}
	other, _ := drawnBy(21).letter(5)
	try(other.modelled().forWhom, api.ErrNone)
	try(slices.Concat(other.modelled().forWhom[:35], right.forWhom[35:]), api.ErrNone)
	try(slices.Concat(right.forWhom[:35], other.modelled().forWhom[35:]), api.ErrAuth)
	try(slices.Concat(right.forWhom[:69], other.modelled().forWhom[69:]), api.ErrAuth)
	// Another session key, or secret, is rightly sealed, but not what the inside is sealed by, or also that.
	other = l
	other.drawn[0][5]++
	try(other.modelled().forWhom, api.ErrAuth)
	other = l
	other.drawn[1][5]++
	m := right
	m.forWhom = other.modelled().forWhom
	o.opens(t, m.bytes(), l.body, l.time)
}

// What layer 16 refuses: bytes that are none, of another kind, or that aren't sealed so.
func TestP17_1OpenOtherSealed(t *testing.T) {
	l, o := right(5)
	m := l.modelled()
	sealed := m.sealed(m.inside())
	try := func(sealed []byte, want api.Errno) {
		t.Helper()
		o.refuses(t, slices.Concat(written(1, m.forWhom), written(18, sealed)), want)
	}
	for n := range sealed {
		want := api.ErrAuth
		if n < 36 {
			want = api.ErrForm
		}
		try(sealed[:n], want)
	}
	try(append(slices.Clone(sealed), 0), api.ErrAuth)
	try(append(slices.Clone(sealed), sealed[36:]...), api.ErrAuth)
	try(m.inside(), api.ErrForm)
	try(make([]byte, 36), api.ErrForm)
	for i, want := range []api.Errno{api.ErrForm, api.ErrKind, api.ErrKind, api.ErrKind, api.ErrAuth} {
		try(with(sealed, i, 128), want)
	}
	for _, salt := range [][32]byte{{}, full(), l.drawn[3]} {
		try(slices.Concat(sealed[:4], salt[:], sealed[36:]), api.ErrAuth)
	}
	other := m
	other.session[0]++
	try(other.sealed(m.inside()), api.ErrAuth)
}

// wantAt is what is told of a message with a body of a few bytes, if the byte at i is another one; the packets' tags and lengths aside.
func wantAt(i int) api.Errno {
	switch {
	case i < 5, i == 37, i == 70, i == 114:
		return api.ErrForm
	case i < 37:
		return api.ErrNone
	case i == 115, i == 116:
		return api.ErrKind
	}
	return api.ErrAuth
}

// Each single byte another one.
func TestP17_1OpenEachByte(t *testing.T) {
	t.Parallel()
	l, o := right(5)
	b := l.modelled().bytes()
	told := map[api.Errno]int{}
	for i := range b {
		switch i {
		case 0, 1, 111, 112, 113, 117:
			continue
		}
		for _, d := range []byte{1, 2, 16, 128, 255} {
			o.refuses(t, with(b, i, d), wantAt(i))
			told[wantAt(i)]++
		}
	}
	if len(b) != 421 || told[api.ErrForm] != 5*6 || told[api.ErrNone] != 5*32 || told[api.ErrKind] != 5*2 || len(told) != 4 {
		t.Errorf("%d bytes: %v", len(b), told)
	}
}

// A tag, a length or the chunks' size another one: each of the other 255.
func TestP17_1OpenEachHead(t *testing.T) {
	t.Parallel()
	l, o := right(5)
	b := l.modelled().bytes()
	for _, i := range []int{0, 1, 111, 112, 113, 117} {
		for d := 1; d < 256; d++ {
			other := with(b, i, byte(d))
			switch e := o.asModelled(t, other); {
			case i == 0 && other[0] == 0x84:
				// In its legacy form the first packet is the same one.
				o.opens(t, other, l.body, l.time)
			case e == api.OK, i == 117 && other[i] <= 10 && e != api.ErrAuth, i == 117 && other[i] > 10 && e != api.ErrKind, i != 117 && e != api.ErrForm && e != api.ErrLong:
				t.Errorf("%d is %d: %v", i, other[i], e)
			}
		}
	}
}

// Cut off anywhere, at either end.
func TestP17_1OpenCutOff(t *testing.T) {
	for _, n := range []int{0, 5} {
		l, o := right(n)
		b := l.modelled().bytes()
		for i := range b {
			o.refuses(t, b[:i], api.ErrForm)
			if i > 0 {
				o.asModelled(t, b[i:])
			}
		}
	}
}

// With bytes behind it.
func TestP17_1OpenBytesBehind(t *testing.T) {
	l, o := right(5)
	b := l.modelled().bytes()
	for c := range 256 {
		o.refuses(t, append(slices.Clone(b), byte(c)), api.ErrForm)
		want := api.ErrForm
		if c&0xc3 == 0x81 && c > 0x83 {
			// A legacy packet of 65535 bytes.
			want = api.ErrLong
		}
		o.refuses(t, append(slices.Clone(b), byte(c), 255, 255), want)
		o.refuses(t, append(slices.Clone(b), byte(c), 0), api.ErrForm)
	}
	for _, more := range [][]byte{b, b[:111], b[111:], []byte("\n"), []byte("\r\n"), make([]byte, 100), {0xd5, 0}, []byte("\xca\x03PGP"), make([]byte, 1<<16)} {
		o.refuses(t, slices.Concat(b, more), api.ErrForm)
	}
	o.refuses(t, slices.Concat(b, tooLong()), api.ErrLong)
	o.refuses(t, slices.Concat(b, b, tooLong()), api.ErrLong)
	o.refuses(t, slices.Concat(b, []byte{0}, tooLong()), api.ErrForm)
}

// P17.2: what was sealed for a key is opened by it, as who signed it.
func TestP17_2There(t *testing.T) {
	keys := []api.Key{{}, {Sign: full(), Box: full()}, {Sign: [32]byte{9}, Box: [32]byte{9}}, drawnBy(22).key()}
	for i, from := range keys {
		for j, k := range keys {
			time := []uint32{0, 5, 1 << 31, 4294967295}[(i+j)%4]
			l := letter{from: from, fromTime: time, to: cert.Of(k, ^time), time: time / 3, body: sample(100*i + j), drawn: drawnBy(23).five()}
			b, e := l.seal()
			if e != api.OK {
				t.Errorf("from %x to %x: %v", from, k, e)
			}
			opener{k: k, kTime: ^time, from: cert.Of(from, time)}.opens(t, b, l.body, l.time)
		}
	}
}

func TestP17_2ThereDrawn(t *testing.T) {
	t.Parallel()
	d := drawnBy(24)
	for range 300 {
		l, o := d.letter(d.IntN(2401))
		b, e := l.seal()
		if e != api.OK {
			t.Errorf("%x: %v", l, e)
		}
		o.opens(t, b, l.body, l.time)
	}
}

// Certificates that were parsed are as those that are made of keys.
func TestP17_2ThereParsed(t *testing.T) {
	from, k := drawnBy(25).key(), drawnBy(26).key()
	by, e := cert.Parse(cert.Make(from, 3, [2][32]byte{{1}, {2}}))
	if e != api.OK {
		t.Fatal(e)
	}
	to, e := cert.Parse(cert.Make(k, 4, [2][32]byte{{3}, {4}}))
	if e != api.OK {
		t.Fatal(e)
	}
	l := letter{from: from, fromTime: 3, to: to, time: 5, body: []byte("hi"), drawn: drawnBy(27).five()}
	opener{k: k, kTime: 4, from: by}.opens(t, l.seals(t), []byte("hi"), 5)
}

// Some who write to each other: each message is opened by the one that it is for, as who signed it, and as nobody else.
func TestP17_2EachItsOwn(t *testing.T) {
	d := drawnBy(28)
	keys := []api.Key{d.key(), d.key(), d.key()}
	for i, from := range keys {
		for j, to := range keys {
			l := letter{from: from, fromTime: 9, to: cert.Of(to, 9), time: 10, body: d.bytes(30), drawn: d.five()}
			b := l.seals(t)
			for m, k := range keys {
				for n, by := range keys {
					o := opener{k: k, kTime: 9, from: cert.Of(by, 9)}
					switch {
					case m != j:
						o.refuses(t, b, api.ErrNone)
					case n != i:
						o.refuses(t, b, api.ErrSig)
					default:
						o.opens(t, b, l.body, 10)
					}
				}
			}
		}
	}
}
