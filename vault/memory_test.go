package vault

import (
	"slices"
	"testing"

	"postilion/api"
	"postilion/disk"
)

// What is handed in is left as it is, its spare room too, whatever the answer.
func TestP10_2ArgumentIsLeft(t *testing.T) {
	room := []byte(mark("abcdefg", 60))
	before := slices.Clone(room)
	d := disk.New(7)
	v := opens(t, d)
	same := func(what string) {
		t.Helper()
		if !slices.Equal(room, before) {
			t.Fatalf("%s changes its argument", what)
		}
	}
	for _, n := range []int{0, 1, 63, 64, 65, 128} {
		if e := v.Keep(room[100 : 100+n]); e != api.OK {
			t.Fatal(e)
		}
		same("Keep")
	}
	if e := v.Keep(room[:129]); e != api.ErrLong {
		t.Fatal(e)
	}
	same("a Keep of too much")
	d.SetFuse(1)
	if e := v.Keep(room[:128]); e != api.ErrDisk {
		t.Fatal(e)
	}
	same("a Keep that is cut off")
	v.Keep(room[:10])
	same("a Keep of a vault that is over")
}

// Its owner may change what was kept: what the vault tells stays, and so does the disk.
func TestP10_2KeepsNothingOfIt(t *testing.T) {
	d := disk.New(7)
	v := opens(t, d)
	b := []byte(mark("a", 100))
	if e := v.Keep(b); e != api.OK {
		t.Fatal(e)
	}
	clear(b)
	tells(t, v, mark("a", 100), 1)
	tells(t, opens(t, d), mark("a", 100), 1)
	keeps(t, v, "b", api.OK)
	for i := range b {
		b[i] = 'z'
	}
	tells(t, v, "b", 2)
}

// An answer is its receiver's own, its spare room too: to change it changes neither what is kept nor another answer.
func TestP10_1AnswersAreNew(t *testing.T) {
	d := disk.New(7)
	v := opens(t, d)
	keeps(t, v, mark("x", 128), api.OK)
	for _, n := range []int{0, 1, 63, 64, 65, 128} {
		text := mark("k", n)
		keeps(t, v, text, api.OK)
		for _, w := range []*Vault{v, opens(t, d)} {
			first, again := w.Load(), w.Load()
			clear(again[:cap(again)])
			if string(first) != text {
				t.Fatalf("two answers of %d bytes share memory", n)
			}
			first = first[:cap(first)]
			for i := range first {
				first[i] = 255
			}
			tells(t, w, text, v.Number())
			tells(t, opens(t, d), text, v.Number())
		}
	}
}

// An answer stays what it is, whatever comes behind it.
func TestP10_1AnswersStay(t *testing.T) {
	d := disk.New(7)
	v := opens(t, d)
	keeps(t, v, "one", api.OK)
	first := v.Load()
	keeps(t, v, "two", api.OK)
	second := v.Load()
	keeps(t, v, "3", api.OK)
	d.SetFuse(2)
	keeps(t, v, "four", api.ErrDisk)
	if string(first) != "one" || string(second) != "two" {
		t.Errorf("%q, %q", first, second)
	}
	tells(t, v, "3", 3)
}

// What is refused, or can't be kept, answers as it did.
func TestP10_2RefusedChangesNothing(t *testing.T) {
	d := disk.New(7)
	v := opens(t, d)
	keeps(t, v, "one", api.OK)
	keeps(t, v, mark("x", 129), api.ErrLong)
	tells(t, v, "one", 1)
	d.SetFuse(3)
	keeps(t, v, "x", api.ErrDisk)
	tells(t, v, "one", 1)
	d.Crash([]bool{true})
	tells(t, v, "one", 1)
	tells(t, opens(t, d), "x", 2)
}
