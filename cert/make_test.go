package cert

import (
	"bytes"
	"testing"

	"postilion/packet"
)

// makes holds that Make answers what the model does, byte by byte, and that this is parsed and says Of.
func makes(t *testing.T, b, want []byte, says Cert) {
	t.Helper()
	if !bytes.Equal(b, want) {
		t.Errorf("%x, not %x", b, want)
	}
	parses(t, b, says)
}

func TestP14_2Make(t *testing.T) {
	t.Parallel()
	for _, k := range keys(12) {
		for i, time := range times() {
			both := [2][32]byte{salts()[i%5], salts()[(i+1)%5]}
			makes(t, Make(k, time, both), modelledCert(k, time, both).bytes(), modelledOf(k, time))
		}
	}
}

// The four packets of a certificate, written out.
func TestP14_2MakePackets(t *testing.T) {
	k := drawn(11).key()
	c := Of(k, 0x01020304)
	list, _ := packet.Parse(Make(k, 0x01020304, [2][32]byte{{3}, {4}}))
	if len(list) != 4 || list[0].Tag != 6 || list[1].Tag != 2 || list[2].Tag != 14 || list[3].Tag != 2 {
		t.Fatal(list)
	}
	first, second := modelledForm(list[0].Body), modelledForm(list[2].Body)
	if string(list[0].Body) != "\x06\x01\x02\x03\x04\x1b\x00\x00\x00\x20"+string(c.Sign[:]) || string(list[2].Body) != "\x06\x01\x02\x03\x04\x19\x00\x00\x00\x20"+string(c.Box[:]) {
		t.Errorf("%x, %x", list[0].Body, list[2].Body)
	}
	question{c.Sign, c.Prints[0], list[1].Body, 0x1f, first}.holds(t, 0x01020304)
	question{c.Sign, c.Prints[0], list[3].Body, 0x18, append(first, second...)}.holds(t, 0x01020304)
	if list[1].Body[56] != 3 || list[3].Body[56] != 4 {
		t.Errorf("salts that begin with %d and %d", list[1].Body[56], list[3].Body[56])
	}
}

// Each salt is one signature's, and of nothing else.
func TestP14_2MakeSalts(t *testing.T) {
	k := drawn(12).key()
	b := Make(k, 5, [2][32]byte{{1}, {2}})
	for i := range 2 {
		both := [2][32]byte{{1}, {2}}
		both[i][31] = 1
		other := Make(k, 5, both)
		list, _ := packet.Parse(b)
		changed, _ := packet.Parse(other)
		for j := range list {
			if bytes.Equal(list[j].Body, changed[j].Body) == (j == 1+2*i) {
				t.Errorf("another salt %d: packet %d is %x, and %x", i, j, changed[j].Body, list[j].Body)
			}
		}
	}
	if !bytes.Equal(b, Make(k, 5, [2][32]byte{{1}, {2}})) {
		t.Error("another certificate of the same")
	}
}

func TestP14_3Drawn(t *testing.T) {
	t.Parallel()
	d := drawn(13)
	for range 400 {
		k, time := d.key(), d.Uint32()
		if c, want := Of(k, time), modelledOf(k, time); c != want {
			t.Errorf("%x, not %x", c, want)
		}
		parses(t, Make(k, time, [2][32]byte{d.array(), d.array()}), Of(k, time))
	}
}

// Keys, times and salts at their ends, each with each.
func TestP14_3Edges(t *testing.T) {
	t.Parallel()
	for _, k := range keys(2) {
		for _, time := range []uint32{0, 1, 1 << 31, 4294967295} {
			c := Of(k, time)
			for _, first := range salts() {
				for _, second := range [][32]byte{{}, first, full()} {
					parses(t, Make(k, time, [2][32]byte{first, second}), c)
				}
			}
		}
	}
}
