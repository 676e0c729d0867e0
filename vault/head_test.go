package vault

import (
	"encoding/binary"
	"math"
	"testing"

	"postilion/api"
	"postilion/disk"
)

// headed answers a sector that tells this.
func headed(number uint64, size uint32, area byte) []byte {
	b := append([]byte("vault 1"), 0)
	b = binary.BigEndian.AppendUint64(b, number)
	b = binary.BigEndian.AppendUint32(b, size)
	b = append(b, area)
	return append(b, make([]byte, api.SectorSize-len(b))...)
}

// laid answers a disk of seven sectors with these heads, nil for none; its areas are full of p and of q.
func laid(t *testing.T, first, second []byte) *disk.Disk {
	t.Helper()
	d := disk.New(7)
	for at, b := range [][]byte{first, second, []byte(mark("p", 128)), nil, []byte(mark("q", 128))} {
		if e := d.Write(at, b); e != api.OK {
			t.Fatal(e)
		}
	}
	if e := d.Sync(); e != api.OK {
		t.Fatal(e)
	}
	return d
}

func TestP10_1OneHead(t *testing.T) {
	for _, c := range []struct {
		head   []byte
		text   string
		number uint64
	}{
		{headed(1, 3, 0), "ppp", 1}, {headed(2, 3, 1), "qqq", 2}, {headed(1, 0, 1), "", 1}, {headed(9, 128, 0), mark("p", 128), 9},
		{headed(256, 127, 1), mark("q", 127), 256}, {headed(1<<40+5, 64, 0), mark("p", 64), 1<<40 + 5}, {headed(3, 65, 1), mark("q", 65), 3},
		{headed(math.MaxUint64, 1, 1), "q", math.MaxUint64}, {headed(1<<63, 2, 0), "pp", 1 << 63}, {headed(0x0102030405060708, 2, 1), "qq", 0x0102030405060708},
	} {
		tells(t, opens(t, laid(t, c.head, nil)), c.text, c.number)
		tells(t, opens(t, laid(t, nil, c.head)), c.text, c.number)
	}
}

func TestP10_1TwoHeads(t *testing.T) {
	for _, c := range []struct {
		first, second []byte
		text          string
		number        uint64
	}{
		{headed(1, 3, 0), headed(2, 2, 1), "qq", 2},
		{headed(3, 3, 0), headed(2, 2, 1), "ppp", 3},
		// Each by its own words, not by where it lies.
		{headed(3, 3, 1), headed(2, 2, 0), "qqq", 3}, {headed(1, 3, 1), headed(2, 2, 0), "pp", 2},
		{headed(1, 3, 1), headed(2, 2, 1), "qq", 2}, {headed(5, 3, 0), headed(2, 2, 0), "ppp", 5},
		// The greater one of all eight bytes, and without a sign.
		{headed(255, 1, 0), headed(256, 2, 1), "qq", 256}, {headed(1<<32, 1, 0), headed(1<<32-1, 2, 1), "p", 1 << 32},
		{headed(1<<63, 1, 0), headed(1<<63-1, 2, 1), "p", 1 << 63}, {headed(1, 1, 0), headed(math.MaxUint64, 2, 1), "qq", math.MaxUint64},
		{headed(math.MaxUint64, 1, 0), headed(math.MaxUint64-1, 2, 1), "p", math.MaxUint64},
		// However far they are from each other.
		{headed(7, 1, 0), headed(1000, 2, 1), "qq", 1000}, {headed(1000, 1, 0), headed(7, 2, 1), "p", 1000},
		// Of one number that in the sector 0.
		{headed(4, 3, 0), headed(4, 2, 1), "ppp", 4}, {headed(4, 3, 1), headed(4, 2, 0), "qqq", 4}, {headed(1, 0, 0), headed(1, 2, 0), "", 1},
		{headed(math.MaxUint64, 1, 1), headed(math.MaxUint64, 2, 0), "q", math.MaxUint64},
	} {
		tells(t, opens(t, laid(t, c.first, c.second)), c.text, c.number)
	}
}

// with answers the head 9, "qq", with another byte at a place.
func with(at int, to byte) []byte {
	b := headed(9, 2, 1)
	b[at] = to
	return b
}

// What is nearly a head is none: the other one counts, be its number the lesser one, or nothing is kept.
func TestP10_1NearlyAHead(t *testing.T) {
	all := [][]byte{
		with(0, 'V'), with(0, 0), with(4, 'T'), with(5, 0), with(5, '\t'), with(6, '2'), with(6, 0), // another word
		with(7, 1), with(7, ' '), with(7, 0x80), with(7, 255), // another byte behind it
		headed(0, 2, 1), headed(0, 0, 0), // the number 0
		headed(9, 2, 2), headed(9, 2, 3), headed(9, 2, 128), headed(9, 2, 255), headed(9, 0, 2), // an area that isn't there
		headed(9, 129, 0), headed(9, 129, 1), headed(9, 130, 1), headed(9, 192, 0), headed(9, 65535, 1), headed(9, 1<<16+2, 1), // too many bytes
		headed(9, 1<<24, 1), headed(9, 1<<31-1, 1), headed(9, 1<<31, 1), headed(9, math.MaxUint32-1, 0), headed(9, math.MaxUint32, 0),
		make([]byte, 64), []byte(mark("\xff", 64)), []byte("vault 1\x00" + mark("\x00", 56)),
	}
	for at := 21; at < 64; at++ { // something else than noughts behind it
		all = append(all, with(at, 1), with(at, 255))
	}
	for at := range 8 { // any other bit of the word and the byte behind it
		for bit := range 8 {
			all = append(all, with(at, headed(9, 2, 1)[at]^1<<bit))
		}
	}
	for _, b := range all {
		tells(t, opens(t, laid(t, b, nil)), "", 0)
		tells(t, opens(t, laid(t, nil, b)), "", 0)
		tells(t, opens(t, laid(t, b, b)), "", 0)
		tells(t, opens(t, laid(t, b, headed(3, 1, 0))), "p", 3)
		tells(t, opens(t, laid(t, headed(3, 1, 0), b)), "p", 3)
	}
	tells(t, opens(t, laid(t, with(63, 0), nil)), "qq", 9)
}

// A head tells as many bytes as there is room for at most; on another disk that is another number.
func TestP10_1RoomOfAHead(t *testing.T) {
	for _, sectors := range []int{4, 5, 6, 7, 50, api.MaxSectors} {
		room := (sectors - 2) / 2 * 64
		for area := range 2 {
			for size := room - 1; size <= room+1; size++ {
				d := disk.New(sectors)
				if e := d.Write(0, headed(6, uint32(size), byte(area))); e != api.OK {
					t.Fatal(e)
				}
				if e := d.Write(2+area*room/64, []byte(mark("a", room))); e != api.OK {
					t.Fatal(e)
				}
				if size > room {
					tells(t, opens(t, d), "", 0)
				} else {
					tells(t, opens(t, d), mark("a", size), 6)
				}
			}
		}
	}
}

// A Keep goes where the last one isn't: neither its sector, nor its area, wherever both are.
func TestP10_2BesideTheLast(t *testing.T) {
	for _, c := range []struct{ first, second []byte }{
		{headed(8, 3, 0), nil}, {headed(8, 3, 1), nil}, {nil, headed(8, 3, 0)}, {nil, headed(8, 3, 1)},
		{headed(8, 3, 0), headed(7, 3, 0)}, {headed(8, 3, 1), headed(7, 3, 1)}, {headed(8, 3, 1), headed(7, 3, 0)},
		{headed(7, 3, 0), headed(8, 3, 0)}, {headed(7, 3, 1), headed(8, 3, 1)}, {headed(7, 3, 1), headed(8, 3, 0)},
		{headed(8, 3, 1), headed(8, 3, 0)}, {headed(8, 3, 0), headed(8, 3, 1)}, {headed(8, 3, 0), headed(9, 3, 2)},
		{headed(8, 3, 1), headed(8, 3, 1)}, {headed(0, 3, 0), headed(8, 3, 0)}, {headed(8, 3, 0), []byte(mark("x", 64))},
	} {
		d := laid(t, c.first, c.second)
		v := opens(t, d)
		texts, at := sectorsOf(t, d), 0
		if string(texts[0][8:16]) != "\x00\x00\x00\x00\x00\x00\x00\x08" {
			at = 1
		}
		other := 1 - texts[at][20]
		keeps(t, v, "new", api.OK)
		texts[1-at] = string(headed(9, 3, other))
		texts[2+2*other] = "new"
		lies(t, d, texts...)
		tells(t, v, "new", 9)
		tells(t, opens(t, d), "new", 9)
	}
}

// sectorsOf answers what lies in each.
func sectorsOf(t *testing.T, d *disk.Disk) []string {
	t.Helper()
	var all []string
	for at := range d.Sectors() {
		b, e := d.Read(at, 1)
		if e != api.OK {
			t.Fatal(e)
		}
		all = append(all, string(b))
	}
	return all
}

// The number goes on over each of its bytes.
func TestP10_2NumberGoesOn(t *testing.T) {
	for shift := range 8 {
		last := uint64(1)<<(8*shift+7) | 127
		for _, n := range []uint64{255, 1<<16 - 1, 1<<24 - 1, 1<<32 - 1, 1<<40 - 1, 1<<48 - 1, 1<<56 - 1, 1<<63 - 1, last, math.MaxUint64 - 1} {
			d := laid(t, headed(n, 1, 1), nil)
			v := opens(t, d)
			keeps(t, v, "new", api.OK)
			tells(t, v, "new", n+1)
			lies(t, d, string(headed(n, 1, 1)), string(headed(n+1, 3, 0)), "new", mark("p", 64), mark("q", 64), mark("q", 64), "")
			tells(t, opens(t, d), "new", n+1)
		}
	}
}

// Behind the greatest number there is none: what is kept counts all the same, and nothing kept is lost.
func TestP10_3GreatestNumber(t *testing.T) {
	const most = math.MaxUint64
	for _, heads := range [][2][]byte{
		{headed(most, 3, 0), nil}, {headed(most, 3, 0), headed(4, 3, 1)}, {headed(most, 3, 0), headed(most, 3, 1)},
		{nil, headed(most, 3, 0)}, {headed(4, 3, 1), headed(most, 3, 0)}, {headed(most-1, 3, 1), headed(most, 3, 0)},
	} {
		d := laid(t, heads[0], heads[1])
		v := opens(t, d)
		for _, text := range []string{"one", "", "three"} {
			keeps(t, v, text, api.OK)
			tells(t, v, text, most)
			d.Crash(nil)
			tells(t, opens(t, d), text, most)
		}
		for fuse := range 5 {
			for _, keep := range []bool{false, true} {
				d := laid(t, heads[0], heads[1])
				v := opens(t, d)
				d.SetFuse(fuse)
				e := v.Keep([]byte("new"))
				d.Crash([]bool{keep})
				if fuse == 4 || fuse == 3 && keep {
					tells(t, opens(t, d), "new", most)
				} else {
					tells(t, opens(t, d), "ppp", most)
				}
				if (e == api.OK) != (fuse == 4) {
					t.Error(fuse, e)
				}
			}
		}
	}
}
