package pgp

import (
	"bytes"
	"crypto/sha256"
	"encoding/hex"
	"slices"
	"testing"

	"postilion/api"
	"postilion/cert"
	"postilion/packet"
	"postilion/seipd"
)

// counted answers 32 bytes that count on from first.
func counted(first byte) [32]byte {
	var b [32]byte
	for i := range b {
		b[i] = first + byte(i)
	}
	return b
}

// known answers a letter whose message another program has reckoned, and who opens it.
func known(body []byte) (letter, opener) {
	from, k := api.Key{Sign: counted(0)}, api.Key{Box: counted(32)}
	l := letter{
		from: from, fromTime: 1700000000, to: cert.Of(k, 1710000000), time: 1720000000, body: body,
		drawn: Drawn{counted(64), counted(96), counted(128), counted(160)},
	}
	return l, opener{k: k, kTime: 1710000000, from: cert.Of(from, 1700000000)}
}

// The message of "hi", reckoned by another program.
const knownMessage = "" +
	"c16d062106b218a7e6ea9522057a6b3ff558453a082786ebad436a1d7f1aeae423483cdbf019675dd574ed7789310b3d2e7681f3790b466c773b1521fecf3657" +
	"7958371ea52f287db76bb55540224d91c215356cc930d33e55229231d6ffaa14a356678131e9ec001764a364ecde5bd2c0700209020480818283848586878889" +
	"8a8b8c8d8e8f909192939495969798999a9b9c9d9e9f0306495779b94b5d339727d961c44d42035bb6043a4145e3c4cf88e9a6a92d1c0317d6fff6c0bef71672" +
	"288a2d2ecbc26d6bddcde48314752d1da03deee7ee06e9cc625d7d713a0f0cb36844c9774aa2fc55c33a8a3c209fb86a6892c6c8acded8ce1baa20097153cc6f" +
	"bbf5806c94cb3664d2f075dd483aa286a4deac2e416cd66643025ef2a1aedb2129328cf966481bdd5489fda9ab0984facb86fda6e5c2d8c26cad3da0be4649fb" +
	"1c9e729bfb4f1caf43fc8c3f4707d8dd2f4475443e2ea39975d4ba0649f6cf8540a5b811e533b73c57f47f6450ebc2dc985c3964867affc179e371cd0a72d08c" +
	"b951a1e8197d8459d9d57ac3139e84869922bc709ad323ec1b280e72b51effbfc364"

func TestP17_1Known(t *testing.T) {
	l, o := known([]byte("hi"))
	b := l.seals(t)
	if hex.EncodeToString(b) != knownMessage {
		t.Errorf("%x, not %s", b, knownMessage)
	}
	o.opens(t, b, []byte("hi"), 1720000000)
}

// Longer ones by that program, of which the sums stand here.
func TestP17_1KnownSums(t *testing.T) {
	for _, c := range []struct {
		n, size int
		sum     string
	}{
		{0, 416, "728fb0f0b9a6ef0096dbd723297ec65538eb222d057b88c5793afb40faecdd75"},
		{1000, 1433, "bbeac9d6c7c753669439dd4b2d5508a0077ce981d2e586a4db50897a4a604661"},
		{2400, 2849, "0a0dc3bb525741c354658bab50ba95c7ded93b8c418b79052ee5a4705ca35c20"},
	} {
		body := make([]byte, c.n)
		for i := range body {
			body[i] = byte(7*i + i/256)
		}
		l, o := known(body)
		b := l.seals(t)
		sum := sha256.Sum256(b)
		if len(b) != c.size || hex.EncodeToString(sum[:]) != c.sum {
			t.Errorf("of %d bytes: %d bytes with the sum %x, not %d with %s", c.n, len(b), sum, c.size, c.sum)
		}
		o.opens(t, b, body, 1720000000)
	}
}

// The chapter's example.
func TestP17_1Example(t *testing.T) {
	l, o := right(0)
	l.body = []byte("hi")
	o.opens(t, l.seals(t), []byte("hi"), l.time)
}

// Each number of bytes at which a length, or the number of chunks, becomes another one, and those beside.
func TestP17_1SealSizes(t *testing.T) {
	l, o := right(2400)
	body := l.body
	for _, n := range []int{
		0, 1, 2, 100, 184, 185, 186, 187, 600, 601, 787, 788, 789, 790, 791, 1023, 1024, 1025, 1200, 1800, 1811, 1812, 1813, 1814, 1815, 2048, 2398, 2399, 2400,
	} {
		l.body = body[:n]
		b := l.seals(t)
		o.opens(t, b, body[:n], l.time)
		list, e := packet.Parse(b)
		if e != api.OK || len(list) != 2 {
			t.Fatal(len(list), e)
		}
		inside, e := seipd.Open(l.drawn[0], list[1].Body)
		chunks := (len(inside) + 1023) / 1024
		if e != api.OK || len(list[1].Body) != 36+len(inside)+16*chunks+16 || list[1].Body[3] != 4 {
			t.Errorf("%d bytes are sealed as %d, %v", len(inside), len(list[1].Body), e)
		}
	}
}

// Of no bytes, nil or not.
func TestP17_1SealNoBytes(t *testing.T) {
	l, o := right(0)
	l.body = nil
	b := l.seals(t)
	o.opens(t, b, nil, l.time)
	l.body = []byte{}
	if other := l.seals(t); !bytes.Equal(b, other) {
		t.Errorf("%x, not %x", other, b)
	}
}

// Bodies of more than 4 times MaxBody bytes, whatever they are for.
func TestP17_1SealTooLong(t *testing.T) {
	l, _ := right(0)
	for _, n := range []int{2401, 2402, 2500, 4096, 4800, 9759, 10000, 10001, 20000, 20001, 1 << 20} {
		l.body = make([]byte, n)
		l.fails(t, api.ErrLong)
		other := l
		other.to = cert.Cert{}
		other.fails(t, api.ErrLong)
	}
	l.body = make([]byte, 2400)
	l.seals(t)
	l.to = cert.Cert{}
	l.fails(t, api.ErrForm)
}

// Bytes that stand for something elsewhere are bytes of a body here: ends of lines, packets, a message itself.
func TestP17_1SealBytes(t *testing.T) {
	l, o := right(0)
	message := l.seals(t)
	for _, body := range [][]byte{
		{0}, {255}, []byte("\r\n"), []byte("a\nb\r\nc\r"), []byte("hi "), []byte("\xff\xfe\x00"), make([]byte, 300), bytes.Repeat([]byte{255}, 300),
		message, l.modelled().inside(), []byte("b\x00\x00\x00\x00\x00hi"), written(2, []byte("ab")), []byte("-----BEGIN PGP MESSAGE-----\n"),
	} {
		l.body = body
		o.opens(t, l.seals(t), body, l.time)
	}
	for c := range 256 {
		l.body = []byte{byte(c)}
		if c%16 == 0 {
			o.opens(t, l.seals(t), l.body, l.time)
		} else {
			l.seals(t)
		}
	}
}

func TestP17_1SealTimes(t *testing.T) {
	l, o := right(5)
	all := []uint32{0, 1, 255, 256, 65535, 65536, 1 << 24, 0x01020304, 1<<31 - 1, 1 << 31, 4294967295}
	seen, tried := map[string]int{}, 0
	add := func(l letter) {
		b := l.seals(t)
		o := opener{k: o.k, kTime: o.kTime, from: cert.Of(l.from, l.fromTime)}
		o.opens(t, b, l.body, l.time)
		seen[string(b)]++
		tried++
	}
	for _, time := range all {
		l, other := l, l
		l.time = time
		add(l)
		other.fromTime = time
		add(other)
	}
	// A message may be signed ahead of its signer's certificate, and the times may be the same.
	l.time, l.fromTime = 7, 7
	add(l)
	if len(seen) != tried {
		t.Errorf("%d messages of %d", len(seen), tried)
	}
}

func TestP17_1SealKeys(t *testing.T) {
	l, o := right(5)
	d := drawnBy(10)
	seen, tried := map[string]int{}, 0
	for _, from := range []api.Key{{}, {Sign: full(), Box: full()}, {Sign: [32]byte{9}, Box: [32]byte{9}}, o.k, d.key(), d.key()} {
		l.from = from
		o.from = cert.Of(from, l.fromTime)
		b := l.seals(t)
		o.opens(t, b, l.body, l.time)
		seen[string(b)]++
		tried++
		// What is sealed for the signer has no part in it.
		l.from.Box = d.array()
		if other := l.seals(t); !bytes.Equal(other, b) {
			t.Errorf("%x, not %x", other, b)
		}
	}
	if len(seen) != tried {
		t.Errorf("%d messages of %d", len(seen), tried)
	}
}

// The certificate need not be one of a key: of it the Box and the second fingerprint count alone.
func TestP17_1SealCertificates(t *testing.T) {
	l, _ := right(5)
	d := drawnBy(11)
	made := l.seals(t)
	for _, change := range []func(*cert.Cert){
		func(c *cert.Cert) { c.Time++ },
		func(c *cert.Cert) { c.Sign = d.array() },
		func(c *cert.Cert) { c.Prints[0] = d.array() },
		func(c *cert.Cert) { *c = cert.Cert{Box: c.Box, Prints: [2][32]byte{1: c.Prints[1]}} },
	} {
		other := l
		change(&other.to)
		if b := other.seals(t); !bytes.Equal(b, made) {
			t.Errorf("%x, not %x", b, made)
		}
	}
	for _, change := range []func(*cert.Cert){
		func(c *cert.Cert) { c.Box = d.array() },
		func(c *cert.Cert) { c.Box[31] ^= 128 },
		func(c *cert.Cert) { c.Prints[1] = d.array() },
		func(c *cert.Cert) { c.Prints[1], c.Prints[0] = c.Prints[0], c.Prints[1] },
		func(c *cert.Cert) { *c = cert.Cert{Box: full()} },
		func(c *cert.Cert) { *c = cert.Of(d.key(), c.Time) },
		func(c *cert.Cert) { *c = cert.Of(l.from, l.fromTime) },
	} {
		other := l
		change(&other.to)
		if b := other.seals(t); bytes.Equal(b, made) {
			t.Errorf("for %x the same", other.to)
		}
	}
}

// smalls answers the public keys of small order, and each with the highest bit set.
func smalls() [][32]byte {
	less := func(last byte) [32]byte {
		u := full()
		u[0], u[31] = last, 127
		return u
	}
	eight := [32]byte{
		0xe0, 0xeb, 0x7a, 0x7c, 0x3b, 0x41, 0xb8, 0xae, 0x16, 0x56, 0xe3, 0xfa, 0xf1, 0x9f, 0xc4, 0x6a,
		0xda, 0x09, 0x8d, 0xeb, 0x9c, 0x32, 0xb1, 0xfd, 0x86, 0x62, 0x05, 0x16, 0x5f, 0x49, 0xb8, 0x00,
	}
	other := [32]byte{
		0x5f, 0x9c, 0x95, 0xbc, 0xa3, 0x50, 0x8c, 0x24, 0xb1, 0xd0, 0xb1, 0x55, 0x9c, 0x83, 0xef, 0x5b,
		0x04, 0x44, 0x5c, 0xc4, 0x58, 0x1c, 0x8e, 0x86, 0xd8, 0x22, 0x4e, 0xdd, 0xd0, 0x9f, 0x11, 0x57,
	}
	all := [][32]byte{{}, {1}, eight, other, less(0xec), less(0xed), less(0xee)}
	for _, u := range slices.Clone(all) {
		u[31] |= 128
		all = append(all, u)
	}
	return all
}

// Nothing can be sealed for a key of small order: layer 15's error.
func TestP17_1SealSmallOrder(t *testing.T) {
	for _, small := range smalls() {
		l, _ := right(5)
		l.to.Box = small
		l.fails(t, api.ErrForm)
		l.drawn = drawnBy(12).five()
		l.fails(t, api.ErrForm)
		l.body = nil
		l.fails(t, api.ErrForm)
		l.body = make([]byte, 2400)
		l.fails(t, api.ErrForm)
		l.body = make([]byte, 2401)
		l.fails(t, api.ErrLong)
		// Those beside it are others.
		l.body = nil
		l.to.Box[1] ^= 1
		l.seals(t)
	}
}

// The fifth of what is drawn counts for nothing, whatever it is; each of the other ones counts.
func TestP17_1SealDrawn(t *testing.T) {
	l, o := right(50)
	made := l.seals(t)
	d := drawnBy(13)
	for _, fifth := range [][32]byte{{}, {1}, {31: 1}, full(), d.array(), l.drawn[0], l.drawn[3]} {
		other := l
		other.drawn[4] = fifth
		if b := other.seals(t); !bytes.Equal(b, made) {
			t.Errorf("with %x: %x, not %x", fifth, b, made)
		}
	}
	seen := map[string]int{string(made): 1}
	for i := range 4 {
		for _, drawn := range [][32]byte{{}, {0, 1}, full(), d.array(), l.drawn[(i+1)%4]} {
			other := l
			other.drawn[i] = drawn
			b := other.seals(t)
			o.opens(t, b, l.body, l.time)
			seen[string(b)]++
		}
	}
	if len(seen) != 21 {
		t.Errorf("%d messages of 21", len(seen))
	}
	// The same each time, and also if all that is drawn is the same.
	for _, drawn := range []Drawn{{}, {full(), full(), full(), full(), full()}, {{7}, {7}, {7}, {7}, {7}}} {
		l.drawn = drawn
		b := l.seals(t)
		o.opens(t, b, l.body, l.time)
		if again := l.seals(t); !bytes.Equal(again, b) {
			t.Errorf("%x, not %x", again, b)
		}
	}
}

func TestP17_1SealDrawnLetters(t *testing.T) {
	t.Parallel()
	d := drawnBy(14)
	for range 300 {
		l, _ := d.letter(d.IntN(2401))
		l.seals(t)
	}
}

// What is sealed, packet by packet, as the chapter says.
func TestP17_1SealPackets(t *testing.T) {
	l, o := right(20)
	list, e := packet.Parse(l.seals(t))
	if e != api.OK || !slices.Equal(tags(list), []int{1, 18}) || len(list[0].Body) != 109 {
		t.Fatal(tags(list), e)
	}
	inside, e := seipd.Open(l.drawn[0], list[1].Body)
	if e != api.OK || !bytes.Equal(list[1].Body[4:36], l.drawn[2][:]) {
		t.Fatal(e)
	}
	list, e = packet.Parse(inside)
	if e != api.OK || !slices.Equal(tags(list), []int{4, 11, 2}) {
		t.Fatal(tags(list), e)
	}
	announced := list[0].Body
	if len(announced) != 70 || !bytes.Equal(announced[5:37], l.drawn[3][:]) || [32]byte(announced[37:]) != o.from.Prints[0] {
		t.Errorf("%x", announced)
	}
	if string(list[1].Body) != "b\x00\x00\x00\x00\x00"+string(l.body) {
		t.Errorf("%x", list[1].Body)
	}
	if time, e := cert.Check(o.from.Sign, o.from.Prints[0], list[2].Body, 0, l.body); e != api.OK || time != l.time {
		t.Errorf("%x: %d, %v", list[2].Body, time, e)
	}
}
