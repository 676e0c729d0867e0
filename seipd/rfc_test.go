package seipd

import (
	"bytes"
	"encoding/hex"
	"testing"

	"postilion/api"
	"postilion/packet"
)

// RFC 9580, A.8.3: a packet of version 2 in one chunk, by AES-128 and OCB; its session key, what is derived of it, and the bytes that are sealed.
const (
	rfcPacket = "" +
		"d26902070206" +
		"616416535be0b0716d60e052a56c4c407f9eb36b0efafe9ad0a0df9b033c69a2" +
		"1ba9ebd2c0ec95bf569d25c999ee4a3de17058f40dfa8b4c682be3fbbbd7b27eb0f59bb500" +
		"5f80c7c6f40388c30ad406ab0513dcd6" +
		"f9fd737656286e1177d00f888adb31c4"
	rfcSession = "dd708f6fa1ed65114d68d2343e7c2f1d"
	rfcKey     = "4512f7149d863341527c6567d5bffc42"
	rfcStart   = "5faf3250212ff9"
	rfcPlain   = "cb1362000000000048656c6c6f2c20776f726c6421" + "d50ec5a293072991628147d72c8f86b7"
)

// unhex answers the bytes.
func unhex(t *testing.T, s string) []byte {
	t.Helper()
	b, err := hex.DecodeString(s)
	if err != nil {
		t.Fatalf("%s: %v", s, err)
	}
	return b
}

func rfcBody(t *testing.T) []byte {
	t.Helper()
	list, e := packet.Parse(unhex(t, rfcPacket))
	if e != api.OK || len(list) != 1 || list[0].Tag != 18 {
		t.Fatal(e, list)
	}
	return list[0].Body
}

// What tests are held against makes the RFC's body of its session key.
func TestP16_1RFCModel(t *testing.T) {
	body, plain := rfcBody(t), unhex(t, rfcPlain)
	m := modelledHead(unhex(t, rfcSession), body[:4], body[4:36], 16)
	m.chunks = [][]byte{m.chunk(0, plain)}
	m.last = m.tag(1, len(plain))
	if !bytes.Equal(m.start, unhex(t, rfcStart)) || !bytes.Equal(m.body(), body) {
		t.Errorf("%x, %x, not %x", m.start, m.body(), body)
	}
}

// rfcRun answers a run with what the RFC derives of its session key.
func rfcRun(t *testing.T) *run {
	return &run{key: unhex(t, rfcKey), start: unhex(t, rfcStart), info: []byte{0xd2, 2, 7, 2, 6}}
}

// Chunks and the last tag are the RFC's: it is only that AES has shorter keys there.
func TestP16_1RFCChunks(t *testing.T) {
	body, plain := rfcBody(t), unhex(t, rfcPlain)
	r := rfcRun(t)
	if b := append(r.seal(plain), r.end()...); !bytes.Equal(b, body[36:]) {
		t.Errorf("%x, not %x", b, body[36:])
	}
	if b, e := rfcRun(t).openAll(body[36:], 4096); e != api.OK || !bytes.Equal(b, plain) {
		t.Errorf("%x, %v, not %x", b, e, plain)
	}
}

// The RFC's algorithm isn't the chapter's, so that its body is of another kind.
func TestP16_1RFCBody(t *testing.T) {
	refuses(t, [32]byte(unhex(t, rfcSession+rfcSession)), rfcBody(t), api.ErrKind)
}

// A body's bytes, written out; they were reckoned by another program: the session key 00 01 .. 1f, the salt 80 81 .. 9f, and the bytes 00 01 .. of each number.
const (
	knownSalt    = "808182838485868788898a8b8c8d8e8f909192939495969798999a9b9c9d9e9f"
	knownNone    = "1182394f86ede52049af178981a70be3"
	knownHundred = "" +
		"27360d49d555519dadf4526290ad8774537bf88460d8d3c306f33e99648dbd88" +
		"903cb4d7949856fbaa2606464dd611800aa948ce5f1784b855b4e2a46e756d40" +
		"be8d57a8f66ce9f5d9bf8f4be940d98d" +
		"11a7af741dba4bf51439e764c8305ba6d70c3c915ec0b7466a5ad58ca44762dfc0cc150b" +
		"524faefd1f159d7dddde5962a2309c8f" +
		"b569e649882f02ceed39a0793a12a9a8"
	knownFive = "721cb1e6ba56101abec104bc26e537a66deb572c40" + "20de6eaa13d83a39979df9276737ec69"
)

func TestP16_1Known(t *testing.T) {
	var session, salt [32]byte
	var plain []byte
	for i := range 100 {
		plain = append(plain, byte(i))
		session[i%32], salt[i%32] = byte(i%32), byte(128+i%32)
	}
	for _, known := range []struct {
		c, n int
		want string
	}{
		{0, 0, "02090200" + knownSalt + knownNone},
		{0, 100, "02090200" + knownSalt + knownHundred},
		{10, 5, "0209020a" + knownSalt + knownFive},
	} {
		b := seals(t, session, salt, known.c, plain[:known.n])
		if hex.EncodeToString(b) != known.want {
			t.Errorf("c %d, %d bytes: %x, not %s", known.c, known.n, b, known.want)
		}
		opens(t, session, unhex(t, known.want), plain[:known.n])
	}
}
