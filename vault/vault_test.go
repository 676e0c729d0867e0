package vault

import (
	"bytes"
	"strings"
	"testing"

	"postilion/api"
	"postilion/disk"
)

func opens(t *testing.T, d *disk.Disk) *Vault {
	t.Helper()
	v, e := Open(d)
	if e != api.OK || v == nil {
		t.Fatalf("Open: %v", e)
	}
	return v
}

func refuses(t *testing.T, d *disk.Disk, want api.Errno) {
	t.Helper()
	if v, e := Open(d); e != want || v != nil {
		t.Errorf("Open: %v, %v, not %v", v, e, want)
	}
}

// tells holds what the vault tells of what is kept.
func tells(t *testing.T, v *Vault, text string, number uint64) {
	t.Helper()
	if b := v.Load(); string(b) != text || v.Number() != number {
		t.Errorf("%q, number %d, not %q, %d", b, v.Number(), text, number)
	}
}

func keeps(t *testing.T, v *Vault, text string, want api.Errno) {
	t.Helper()
	if e := v.Keep([]byte(text)); e != want {
		t.Errorf("Keep of %d bytes: %v, not %v", len(text), e, want)
	}
}

// mark answers n bytes, all of one kind.
func mark(c string, n int) string {
	return strings.Repeat(c, n)
}

// lies holds the whole disk: each text is a sector, with noughts behind it.
func lies(t *testing.T, d *disk.Disk, texts ...string) {
	t.Helper()
	var want []byte
	for _, text := range texts {
		want = append(want, text+mark("\x00", api.SectorSize-len(text))...)
	}
	if b, e := d.Read(0, d.Sectors()); e != api.OK || !bytes.Equal(b, want) {
		t.Errorf("there lie\n%q, %v, not\n%q", b, e, want)
	}
}

func TestP10_1OpenSizes(t *testing.T) {
	for _, n := range []int{-1, 0, 1, 2, 3} {
		refuses(t, disk.New(n), api.ErrArg)
	}
	for _, c := range [][2]int{
		{4, 64}, {5, 64}, {6, 128}, {7, 128}, {8, 192}, {9, 192}, {20, 576}, {101, 49 * 64},
		{api.MaxSectors - 1, 1998 * 64}, {api.MaxSectors, 1999 * 64},
	} {
		d := disk.New(c[0])
		v := opens(t, d)
		if v.Room() != c[1] || v.Over() {
			t.Errorf("%d: room for %d, over %v", c[0], v.Room(), v.Over())
		}
		tells(t, v, "", 0)
		for i, s := range []string{mark("a", c[1]), mark("b", c[1]), mark("c", c[1]-1)} {
			keeps(t, v, s, api.OK)
			tells(t, v, s, uint64(i+1))
			tells(t, opens(t, d), s, uint64(i+1))
		}
		keeps(t, v, mark("d", c[1]+1), api.ErrLong)
	}
}

func TestP10_1OpenNil(t *testing.T) {
	refuses(t, nil, api.ErrArg)
	refuses(t, &disk.Disk{}, api.ErrArg)
}

func TestP10_1OpenWithoutPower(t *testing.T) {
	for _, n := range []int{0, 3, 4, 5, 20, api.MaxSectors} {
		d := disk.New(n)
		d.SetFuse(0)
		d.Sync()
		if n < 4 {
			refuses(t, d, api.ErrArg)
			continue
		}
		refuses(t, d, api.ErrDisk)
		refuses(t, d, api.ErrDisk)
		d.Crash(nil)
		tells(t, opens(t, d), "", 0)
	}
}

// Open writes nothing, and no fuse is burnt by it.
func TestP10_1OpenLeavesTheDisk(t *testing.T) {
	d := disk.New(6)
	v := opens(t, d)
	keeps(t, v, "one", api.OK)
	keeps(t, v, "two", api.OK)
	before, _ := d.Read(0, 6)
	d.SetFuse(0)
	for range 3 {
		w := opens(t, d)
		tells(t, w, "two", 2)
		w.Room()
		w.Over()
	}
	if b, e := d.Read(0, 6); e != api.OK || !bytes.Equal(b, before) || d.Unsynced() != 0 || d.Down() {
		t.Errorf("%x, %v", b, e)
	}
}

// What lies in the areas of a disk without heads is not kept.
func TestP10_1NoHeads(t *testing.T) {
	for _, c := range []string{"\x00", "x", "\xff", "v"} {
		d := disk.New(9)
		if e := d.Write(0, []byte(mark(c, 9*64))); e != api.OK {
			t.Fatal(e)
		}
		v := opens(t, d)
		tells(t, v, "", 0)
		if v.Room() != 192 {
			t.Error(v.Room())
		}
		keeps(t, v, "first", api.OK)
		tells(t, opens(t, d), "first", 1)
	}
}

// The chapter's example.
func TestP10_2Example(t *testing.T) {
	d := disk.New(4)
	v := opens(t, d)
	keeps(t, v, "a", api.OK)
	keeps(t, v, "b", api.OK)
	d.Crash(nil)
	tells(t, opens(t, d), "b", 2)
	tells(t, v, "b", 2)
}

// What a Keep writes: its area, not the last one's, and the head, in the other sector. What it has no bytes for stays.
func TestP10_2WhatLies(t *testing.T) {
	d := disk.New(7)
	v := opens(t, d)
	const none = ""
	lies(t, d, none, none, none, none, none, none, none)

	keeps(t, v, mark("a", 65), api.OK)
	one := "vault 1\x00" + "\x00\x00\x00\x00\x00\x00\x00\x01" + "\x00\x00\x00\x41" + "\x00"
	lies(t, d, one, none, mark("a", 64), "a", none, none, none)

	keeps(t, v, mark("b", 128), api.OK)
	two := "vault 1\x00" + "\x00\x00\x00\x00\x00\x00\x00\x02" + "\x00\x00\x00\x80" + "\x01"
	lies(t, d, one, two, mark("a", 64), "a", mark("b", 64), mark("b", 64), none)

	keeps(t, v, "c", api.OK)
	three := "vault 1\x00" + "\x00\x00\x00\x00\x00\x00\x00\x03" + "\x00\x00\x00\x01" + "\x00"
	lies(t, d, three, two, "c", "a", mark("b", 64), mark("b", 64), none)

	keeps(t, v, "", api.OK)
	four := "vault 1\x00" + "\x00\x00\x00\x00\x00\x00\x00\x04" + "\x00\x00\x00\x00" + "\x01"
	lies(t, d, three, four, "c", "a", mark("b", 64), mark("b", 64), none)

	keeps(t, v, mark("e", 64), api.OK)
	five := "vault 1\x00" + "\x00\x00\x00\x00\x00\x00\x00\x05" + "\x00\x00\x00\x40" + "\x00"
	lies(t, d, five, four, mark("e", 64), "a", mark("b", 64), mark("b", 64), none)

	keeps(t, opens(t, d), mark("f", 63), api.OK)
	six := "vault 1\x00" + "\x00\x00\x00\x00\x00\x00\x00\x06" + "\x00\x00\x00\x3f" + "\x01"
	lies(t, d, five, six, mark("e", 64), "a", mark("f", 63), mark("b", 64), none)
	if d.Unsynced() != 0 {
		t.Error(d.Unsynced())
	}
}

// Of the smallest disks each area is one sector; an odd one at the end is nobody's.
func TestP10_2WhatLiesOnASmallDisk(t *testing.T) {
	for _, n := range []int{4, 5} {
		d := disk.New(n)
		if e := d.Write(n-1, []byte(mark("z", 64))); e != api.OK {
			t.Fatal(e)
		}
		v := opens(t, d)
		keeps(t, v, "one", api.OK)
		keeps(t, v, "two", api.OK)
		one := "vault 1\x00" + "\x00\x00\x00\x00\x00\x00\x00\x01" + "\x00\x00\x00\x03" + "\x00"
		two := "vault 1\x00" + "\x00\x00\x00\x00\x00\x00\x00\x02" + "\x00\x00\x00\x03" + "\x01"
		lies(t, d, append([]string{one, two, "one", "two"}, mark("z", 64))[:n]...)
	}
}

// The greatest sizes take three of the four bytes that tell them.
func TestP10_2WhatLiesOnAGreatDisk(t *testing.T) {
	d := disk.New(api.MaxSectors)
	v := opens(t, d)
	keeps(t, v, "a", api.OK)
	text := mark("b", 1999*64-1)
	keeps(t, v, text, api.OK)
	b, e := d.Read(0, api.MaxSectors)
	two := "vault 1\x00" + "\x00\x00\x00\x00\x00\x00\x00\x02" + "\x00\x01\xf3\xbf" + "\x01" + mark("\x00", 43)
	if e != api.OK || string(b[64:128]) != two || string(b[2001*64:]) != text+"\x00" {
		t.Errorf("%q, %v", b[:128], e)
	}
	tells(t, opens(t, d), text, 2)
}

func TestP10_2Sizes(t *testing.T) {
	for _, sectors := range []int{4, 5, 6, 12} {
		room := (sectors - 2) / 2 * 64
		for _, size := range []int{0, 1, 2, 63, 64, 65, 127, 128, room - 1, room, room + 1, room + 64, room + 1000} {
			d := disk.New(sectors)
			v := opens(t, d)
			keeps(t, v, "old", api.OK)
			text, number, want := mark("n", size), uint64(2), api.OK
			if size > room {
				text, number, want = "old", 1, api.ErrLong
			}
			keeps(t, v, mark("n", size), want)
			tells(t, v, text, number)
			tells(t, opens(t, d), text, number)
			if v.Over() || d.Unsynced() != 0 {
				t.Errorf("over %v, unsynced %d", v.Over(), d.Unsynced())
			}
		}
	}
}

// No bytes that are kept are something else than nothing kept: they have a number.
func TestP10_2KeepOfNone(t *testing.T) {
	d := disk.New(4)
	v := opens(t, d)
	for i, b := range [][]byte{nil, {}, []byte("x")[:0], nil} {
		if e := v.Keep(b); e != api.OK {
			t.Error(e)
		}
		tells(t, v, "", uint64(i+1))
		tells(t, opens(t, d), "", uint64(i+1))
	}
	keeps(t, v, "x", api.OK)
	keeps(t, v, "", api.OK)
	tells(t, opens(t, d), "", 6)
}

// Each byte comes back, those that are like noughts and like heads too.
func TestP10_2EachByte(t *testing.T) {
	all := make([]byte, 512)
	for i := range all {
		all[i] = byte(i * 7)
	}
	d := disk.New(20)
	v := opens(t, d)
	for i, text := range []string{
		string(all), "\x00", mark("\x00", 64), "a\x00\x00", "\x00a", mark("\xff", 300),
		"vault 1\x00" + "\x00\x00\x00\x00\x00\x00\x00\x63" + "\x00\x00\x00\x01" + "\x01" + mark("\x00", 43),
	} {
		keeps(t, v, text, api.OK)
		tells(t, v, text, uint64(i+1))
		tells(t, opens(t, d), text, uint64(i+1))
	}
}

// Many, one behind another: by one vault, and by one that is opened anew for each.
func TestP10_2Several(t *testing.T) {
	one, two := disk.New(11), disk.New(11)
	v := opens(t, one)
	for i := range 600 {
		text := mark(string(rune('a'+i%26)), i*37%257)
		keeps(t, v, text, api.OK)
		tells(t, v, text, uint64(i+1))
		w := opens(t, two)
		keeps(t, w, text, api.OK)
		tells(t, w, text, uint64(i+1))
		a, _ := one.Read(0, 11)
		b, _ := two.Read(0, 11)
		if !bytes.Equal(a, b) {
			t.Fatalf("behind %d they differ:\n%q\n%q", i+1, a, b)
		}
		tells(t, opens(t, one), text, uint64(i+1))
	}
}

// ErrLong touches nothing, and is no end.
func TestP10_2Long(t *testing.T) {
	d := disk.New(7)
	v := opens(t, d)
	keeps(t, v, mark("x", 129), api.ErrLong)
	tells(t, v, "", 0)
	keeps(t, v, "old", api.OK)
	before, _ := d.Read(0, 7)
	d.SetFuse(0)
	for _, n := range []int{129, 130, 192, 256, 5000, 1 << 20} {
		keeps(t, v, mark("x", n), api.ErrLong)
	}
	if b, e := d.Read(0, 7); e != api.OK || !bytes.Equal(b, before) || d.Unsynced() != 0 || v.Over() {
		t.Errorf("%x, %v, over %v", b, e, v.Over())
	}
	tells(t, v, "old", 1)
	d.SetFuse(-1)
	keeps(t, v, "new", api.OK)
	tells(t, v, "new", 2)
}

// Once over, a vault answers ErrDisk ahead of ErrLong, and touches the disk no more, also when that has power again. What it has kept it still tells.
func TestP10_2Over(t *testing.T) {
	d := disk.New(6)
	v := opens(t, d)
	keeps(t, v, "one", api.OK)
	keeps(t, v, "two", api.OK)
	d.SetFuse(0)
	if v.Over() {
		t.Error("over ahead of ErrDisk")
	}
	keeps(t, v, "three", api.ErrDisk)
	over := func() {
		t.Helper()
		for _, n := range []int{0, 1, 128, 129, 5000} {
			keeps(t, v, mark("x", n), api.ErrDisk)
		}
		tells(t, v, "two", 2)
		if !v.Over() || v.Room() != 128 {
			t.Errorf("over %v, room %d", v.Over(), v.Room())
		}
	}
	over()
	d.Crash([]bool{true})
	before, _ := d.Read(0, 6)
	d.SetFuse(0)
	over()
	if b, e := d.Read(0, 6); e != api.OK || !bytes.Equal(b, before) || d.Unsynced() != 0 || d.Down() {
		t.Errorf("%x, %v", b, e)
	}
	d.SetFuse(-1)
	w := opens(t, d)
	tells(t, w, "two", 2)
	keeps(t, w, "four", api.OK)
	over()
	tells(t, opens(t, d), "four", 3)
}

// A vault that hasn't met ErrDisk isn't over, though the power is gone: what is too long is ErrLong still.
func TestP10_2LongWithoutPower(t *testing.T) {
	d := disk.New(6)
	v := opens(t, d)
	keeps(t, v, "one", api.OK)
	d.SetFuse(0)
	d.Sync()
	keeps(t, v, mark("x", 129), api.ErrLong)
	if v.Over() {
		t.Error("over")
	}
	tells(t, v, "one", 1)
	keeps(t, v, "", api.ErrDisk)
	if !v.Over() {
		t.Error("not over")
	}
	keeps(t, v, mark("x", 129), api.ErrDisk)
}

func TestP10_2Nil(t *testing.T) {
	for _, v := range []*Vault{nil, {}} {
		for range 2 {
			for _, n := range []int{0, 1, 64, 5000} {
				keeps(t, v, mark("x", n), api.ErrArg)
			}
			if v.Load() != nil || v.Number() != 0 || v.Room() != 0 || v.Over() {
				t.Errorf("%x, %d, %d, %v", v.Load(), v.Number(), v.Room(), v.Over())
			}
		}
	}
}
