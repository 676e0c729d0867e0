package disk

import (
	"slices"
	"testing"

	"postilion/api"
)

// What is handed in is left as it is, its spare room too, whatever the answer.
func TestP9_1ArgumentsAreLeft(t *testing.T) {
	x := draw(20)
	room := x.text(600)
	before := slices.Clone(room)
	d := New(4)
	same := func(what string) {
		t.Helper()
		if !slices.Equal(room, before) {
			t.Fatalf("%s changes its argument", what)
		}
	}
	for _, n := range []int{0, 63, 64, 192, 256, 320} {
		d.Write(0, room[100:100+n])
		same("Write")
	}
	d.Sync()
	same("Sync")
	d.SetFuse(2)
	if e := d.Write(0, room[:256]); e != api.ErrDisk {
		t.Fatal(e)
	}
	same("a Write that is cut off")
	d.Write(0, room[:64])
	same("a Write without power")
	d.Crash([]bool{true})
	same("Crash")
	if b, e := d.Read(0, 2); e != api.OK || !slices.Equal(b, room[:128]) {
		t.Errorf("%x, %v", b, e)
	}
}

// Its owner may change what was written: the disk is as it was, now, and behind a Sync or a crash.
func TestP9_1WriteKeepsNothing(t *testing.T) {
	for _, behind := range []func(d *Disk){
		func(d *Disk) {}, func(d *Disk) { d.Sync() }, func(d *Disk) { d.Crash([]bool{true}) },
		func(d *Disk) { d.Sync(); d.Crash(nil) },
	} {
		d := New(2)
		b := filled("ab")
		if e := d.Write(0, b); e != api.OK {
			t.Fatal(e)
		}
		clear(b)
		holds(t, d, "ab")
		behind(d)
		holds(t, d, "ab")
		b[0] = 1
		holds(t, d, "ab")
	}
}

// An answer is its receiver's own, its spare room too: to change it changes neither the disk nor another answer.
func TestP9_1AnswersAreNew(t *testing.T) {
	d := synced(t, "abcd")
	writes(t, d, 3, "e", api.OK)
	for at := range 5 {
		for n := range 5 - at {
			first, _ := d.Read(at, n)
			again, _ := d.Read(at, n)
			want := filled("abce"[at : at+n])
			clear(again[:cap(again)])
			if !slices.Equal(first, want) {
				t.Fatalf("Read %d, %d: two answers share memory", at, n)
			}
			first = first[:cap(first)]
			for i := range first {
				first[i] = 255
			}
			holds(t, d, "abce")
		}
	}
	d.Crash(nil)
	holds(t, d, "abcd")
}

// An answer stays what it is, whatever comes behind it.
func TestP9_1AnswersStay(t *testing.T) {
	d := synced(t, "abc")
	first, _ := d.Read(0, 3)
	writes(t, d, 0, "xyz", api.OK)
	second, _ := d.Read(0, 3)
	d.Crash(nil)
	writes(t, d, 0, "uvw", api.OK)
	syncs(t, d, api.OK)
	if !slices.Equal(first, filled("abc")) || !slices.Equal(second, filled("xyz")) {
		t.Errorf("%x, %x", first, second)
	}
}

func TestP9_2ListIsLeft(t *testing.T) {
	room := []bool{true, false, true, true, false, true, false, false}
	before := slices.Clone(room)
	for from := range room {
		for to := from; to <= len(room); to++ {
			d := New(5)
			writes(t, d, 0, "abcde", api.OK)
			d.Crash(room[from:to])
			if !slices.Equal(room, before) {
				t.Fatal("Crash changes its list")
			}
		}
	}
}

// A list is for the crash that it was handed to alone.
func TestP9_2ListIsNotKept(t *testing.T) {
	d := synced(t, "abc")
	keep := []bool{true, false, true}
	writes(t, d, 0, "XYZ", api.OK)
	d.Crash(keep)
	clear(keep)
	holds(t, d, "XbZ")
	keep[1] = true
	writes(t, d, 0, "UVW", api.OK)
	d.Crash(nil)
	holds(t, d, "XbZ")
}

// What a disk answers hangs on its own history alone: two with the same one answer the same, whatever is done between.
func TestP9_1Alike(t *testing.T) {
	x, y := draw(21), draw(21)
	one, two := newPair(t, 7), newPair(t, 7)
	other := draw(22)
	for range 400 {
		one.step(&x)
		newPair(t, 7).step(&other)
		two.step(&y)
		a, e := one.d.Read(0, 7)
		b, f := two.d.Read(0, 7)
		if !slices.Equal(a, b) || e != f || one.d.Unsynced() != two.d.Unsynced() {
			t.Fatalf("%x, %v and %x, %v", a, e, b, f)
		}
	}
}
