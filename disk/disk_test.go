package disk

import (
	"bytes"
	"math"
	"strings"
	"testing"

	"postilion/api"
)

// filled answers the sectors that are filled with these bytes, one each.
func filled(marks string) []byte {
	var all []byte
	for i := range len(marks) {
		all = append(all, strings.Repeat(marks[i:i+1], api.SectorSize)...)
	}
	return all
}

// noughts are n sectors' marks of a new disk.
func noughts(n int) string {
	return strings.Repeat("\x00", n)
}

// holds asks for the whole disk.
func holds(t *testing.T, d *Disk, marks string) {
	t.Helper()
	if n := d.Sectors(); n != len(marks) {
		t.Fatalf("%d sectors, not %d", n, len(marks))
	}
	b, e := d.Read(0, len(marks))
	if e != api.OK || !bytes.Equal(b, filled(marks)) {
		t.Errorf("it holds %x, %v, not %q", b, e, marks)
	}
}

// writes makes the sectors from at on what the marks say.
func writes(t *testing.T, d *Disk, at int, marks string, want api.Errno) {
	t.Helper()
	if e := d.Write(at, filled(marks)); e != want {
		t.Errorf("Write %d, %q: %v, not %v", at, marks, e, want)
	}
}

func syncs(t *testing.T, d *Disk, want api.Errno) {
	t.Helper()
	if e := d.Sync(); e != want {
		t.Errorf("Sync: %v, not %v", e, want)
	}
}

func reads(t *testing.T, d *Disk, at, n int, want api.Errno) {
	t.Helper()
	b, e := d.Read(at, n)
	if e != want || e != api.OK && b != nil || e == api.OK && len(b) != n*api.SectorSize {
		t.Errorf("Read %d, %d: %x, %v, not %v", at, n, b, e, want)
	}
}

// stands holds what is told of the power and of what isn't synced.
func stands(t *testing.T, d *Disk, down bool, unsynced int) {
	t.Helper()
	if d.Down() != down || d.Unsynced() != unsynced {
		t.Errorf("Down %v, Unsynced %d, not %v, %d", d.Down(), d.Unsynced(), down, unsynced)
	}
}

// synced answers a disk on which these marks are synced.
func synced(t *testing.T, marks string) *Disk {
	t.Helper()
	d := New(len(marks))
	writes(t, d, 0, marks, api.OK)
	syncs(t, d, api.OK)
	return d
}

func TestP9_1New(t *testing.T) {
	for _, c := range [][2]int{
		{math.MinInt, 0}, {-api.SectorSize, 0}, {-2, 0}, {-1, 0}, {0, 0}, {1, 1}, {2, 2}, {63, 63}, {64, 64}, {100, 100},
		{api.MaxSectors - 1, 3999}, {api.MaxSectors, 4000}, {api.MaxSectors + 1, 4000}, {5000, 4000}, {math.MaxInt, 4000},
	} {
		d := New(c[0])
		if d.Sectors() != c[1] {
			t.Errorf("New %d: %d sectors, not %d", c[0], d.Sectors(), c[1])
		}
		stands(t, d, false, 0)
		holds(t, d, noughts(c[1]))
		d.Crash(nil)
		holds(t, d, noughts(c[1]))
	}
}

// A disk is a thing of its own.
func TestP9_1NewOnes(t *testing.T) {
	one, two := New(3), New(3)
	writes(t, one, 0, "abc", api.OK)
	syncs(t, one, api.OK)
	writes(t, one, 0, "def", api.OK)
	one.SetFuse(0)
	syncs(t, one, api.ErrDisk)
	stands(t, two, false, 0)
	holds(t, two, noughts(3))
	holds(t, New(3), noughts(3))
	syncs(t, two, api.OK)
}

func TestP9_1ReadAndWrite(t *testing.T) {
	d := New(5)
	writes(t, d, 0, "a", api.OK)
	holds(t, d, "a"+noughts(4))
	writes(t, d, 4, "e", api.OK)
	holds(t, d, "a"+noughts(3)+"e")
	writes(t, d, 1, "bcd", api.OK)
	holds(t, d, "abcde")
	writes(t, d, 0, "vwxyz", api.OK)
	holds(t, d, "vwxyz")
	for at := range 5 {
		for n := range 5 - at + 1 {
			b, e := d.Read(at, n)
			if e != api.OK || !bytes.Equal(b, filled("vwxyz"[at:at+n])) {
				t.Errorf("Read %d, %d: %x, %v", at, n, b, e)
			}
		}
	}
}

// A sector's bytes are each in its own place.
func TestP9_1EachByte(t *testing.T) {
	x := draw(1)
	text := x.text(3 * api.SectorSize)
	d := New(5)
	if e := d.Write(1, text); e != api.OK {
		t.Fatal(e)
	}
	want := bytes.Join([][]byte{filled(noughts(1)), text, filled(noughts(1))}, nil)
	if b, e := d.Read(0, 5); e != api.OK || !bytes.Equal(b, want) {
		t.Errorf("%x, %v", b, e)
	}
}

func TestP9_1LastSector(t *testing.T) {
	for _, n := range []int{1, 2, 7, api.MaxSectors} {
		d := New(n)
		writes(t, d, n-1, "z", api.OK)
		writes(t, d, n-1, "yx", api.ErrArg)
		writes(t, d, n, "w", api.ErrArg)
		writes(t, d, n+1, "v", api.ErrArg)
		writes(t, d, 0, strings.Repeat("u", n+1), api.ErrArg)
		reads(t, d, n-1, 1, api.OK)
		reads(t, d, n-1, 2, api.ErrArg)
		reads(t, d, n, 1, api.ErrArg)
		reads(t, d, n+1, 1, api.ErrArg)
		reads(t, d, 0, n+1, api.ErrArg)
		stands(t, d, false, 1)
		holds(t, d, noughts(n-1)+"z")
	}
}

func TestP9_1NoSectors(t *testing.T) {
	for _, n := range []int{0, 1, 3, api.MaxSectors} {
		d := New(n)
		for _, at := range []int{0, n / 2, n} {
			reads(t, d, at, 0, api.OK)
			writes(t, d, at, "", api.OK)
			if e := d.Write(at, nil); e != api.OK {
				t.Errorf("Write %d, nil: %v", at, e)
			}
		}
		for _, at := range []int{-1, n + 1, math.MinInt, math.MaxInt} {
			reads(t, d, at, 0, api.ErrArg)
			writes(t, d, at, "", api.ErrArg)
		}
		stands(t, d, false, 0)
		holds(t, d, noughts(n))
	}
}

func TestP9_1NegativeAndGreat(t *testing.T) {
	d := synced(t, "abcd")
	for _, c := range [][2]int{
		{-1, 1}, {-1, 2}, {-4, 8}, {0, -1}, {1, -1}, {4, -1}, {4, -4}, {2, -2}, {-1, -1}, {5, -1}, {5, -5},
		{math.MinInt, 1}, {math.MinInt, math.MinInt}, {0, math.MinInt}, {1, math.MinInt}, {math.MinInt, math.MaxInt},
		{0, math.MaxInt}, {1, math.MaxInt}, {4, math.MaxInt}, {3, math.MaxInt - 2}, {math.MaxInt, 1}, {math.MaxInt, 4},
		{math.MaxInt, math.MaxInt}, {math.MaxInt/2 + 1, math.MaxInt/2 + 1}, {math.MaxInt, math.MinInt}, {-2, math.MaxInt},
		// As bytes, so many sectors would be few, or none.
		{0, math.MaxInt/api.SectorSize + 1}, {0, 2 * (math.MaxInt/api.SectorSize + 1)}, {math.MaxInt/api.SectorSize + 1, 1},
		{0, 1 << 32}, {1 << 32, 1}, {1<<32 + 1, 0}, {0, 1<<32 + 1},
	} {
		reads(t, d, c[0], c[1], api.ErrArg)
	}
	for _, at := range []int{math.MinInt, math.MinInt + 4, -5, -4, -3, -2, -1, 5, 1 << 32, math.MaxInt - 4, math.MaxInt - 1, math.MaxInt} {
		for _, marks := range []string{"", "x", "xx", "xxxx", "xxxxx"} {
			writes(t, d, at, marks, api.ErrArg)
		}
	}
	stands(t, d, false, 0)
	holds(t, d, "abcd")
}

func TestP9_1NoWholeSectors(t *testing.T) {
	d := synced(t, "abc")
	for _, at := range []int{-1, 0, 1, 3, 4} {
		for _, n := range []int{1, 2, 32, 63, 65, 127, 129, 191, 193} {
			if e := d.Write(at, make([]byte, n)); e != api.ErrArg {
				t.Errorf("Write %d, %d bytes: %v", at, n, e)
			}
		}
	}
	stands(t, d, false, 0)
	holds(t, d, "abc")
}

// ErrArg comes first, and what it refuses doesn't burn the fuse.
func TestP9_1ErrArgFirst(t *testing.T) {
	d := synced(t, "abc")
	wrong := func() {
		t.Helper()
		for _, c := range [][2]int{{-1, 0}, {-1, 1}, {0, -1}, {0, 4}, {3, 1}, {4, 0}, {math.MaxInt, math.MaxInt}} {
			reads(t, d, c[0], c[1], api.ErrArg)
		}
		writes(t, d, -1, "", api.ErrArg)
		writes(t, d, 4, "", api.ErrArg)
		writes(t, d, 3, "x", api.ErrArg)
		writes(t, d, 1, "xyz", api.ErrArg)
		if e := d.Write(0, make([]byte, 65)); e != api.ErrArg {
			t.Errorf("65 bytes: %v", e)
		}
	}
	d.SetFuse(0)
	wrong()
	stands(t, d, false, 0)
	writes(t, d, 0, "x", api.ErrDisk)
	wrong()
	stands(t, d, true, 0)
	reads(t, d, 0, 3, api.ErrDisk)
	reads(t, d, 3, 0, api.ErrDisk)
	writes(t, d, 0, "x", api.ErrDisk)
	writes(t, d, 3, "", api.ErrDisk)
	d.Crash([]bool{true})
	holds(t, d, "abc")
}

func TestP9_1Unsynced(t *testing.T) {
	d := New(4)
	stands(t, d, false, 0)
	writes(t, d, 1, "a", api.OK)
	stands(t, d, false, 1)
	writes(t, d, 1, "a", api.OK)
	stands(t, d, false, 2)
	writes(t, d, 0, "bbbb", api.OK)
	stands(t, d, false, 6)
	writes(t, d, 2, "", api.OK)
	writes(t, d, 3, "xx", api.ErrArg)
	reads(t, d, 0, 4, api.OK)
	stands(t, d, false, 6)
	syncs(t, d, api.OK)
	stands(t, d, false, 0)
	syncs(t, d, api.OK)
	stands(t, d, false, 0)
	writes(t, d, 2, "cd", api.OK)
	stands(t, d, false, 2)
	d.Crash([]bool{true, false})
	stands(t, d, false, 0)
	writes(t, d, 0, "e", api.OK)
	stands(t, d, false, 1)
	d.Crash(nil)
	stands(t, d, false, 0)
}

// Each as often as it was: far more often than there are sectors.
func TestP9_1UnsyncedOften(t *testing.T) {
	d := New(2)
	for i := range 10000 {
		writes(t, d, i%2, "a", api.OK)
	}
	stands(t, d, false, 10000)
	keep := make([]bool, 10000)
	writes(t, d, 0, "b", api.OK)
	d.Crash(append(keep, true))
	stands(t, d, false, 0)
	holds(t, d, "b"+noughts(1))
}

func TestP9_1Sync(t *testing.T) {
	d := synced(t, "abc")
	writes(t, d, 0, "x", api.OK)
	writes(t, d, 0, "d", api.OK)
	writes(t, d, 2, "f", api.OK)
	syncs(t, d, api.OK)
	holds(t, d, "dbf")
	d.Crash(nil)
	holds(t, d, "dbf")
	d.Crash([]bool{false})
	holds(t, d, "dbf")
}

func TestP9_1Nil(t *testing.T) {
	var none *Disk
	for _, n := range []int{-1, 0, 1, math.MaxInt} {
		reads(t, none, n, n, api.ErrArg)
		writes(t, none, n, "", api.ErrArg)
		writes(t, none, n, "a", api.ErrArg)
		none.SetFuse(n)
	}
	if e := none.Write(0, nil); e != api.ErrArg {
		t.Errorf("Write of nil: %v", e)
	}
	none.Crash(nil)
	none.Crash([]bool{true, false})
	syncs(t, none, api.ErrArg)
	stands(t, none, false, 0)
	if n := none.Sectors(); n != 0 {
		t.Errorf("%d sectors", n)
	}
}

// The zero Disk has no sectors, and answers as such a disk does.
func TestP9_1Zero(t *testing.T) {
	d := new(Disk)
	holds(t, d, "")
	writes(t, d, 0, "", api.OK)
	writes(t, d, 0, "a", api.ErrArg)
	syncs(t, d, api.OK)
	d.SetFuse(0)
	syncs(t, d, api.ErrDisk)
	stands(t, d, true, 0)
	d.Crash(nil)
	stands(t, d, false, 0)
}
