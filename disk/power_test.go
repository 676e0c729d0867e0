package disk

import (
	"math"
	"testing"

	"postilion/api"
)

// With a fuse of 0 the first sector is written no more.
func TestP9_1FuseOfNone(t *testing.T) {
	d := synced(t, "abc")
	d.SetFuse(0)
	stands(t, d, false, 0)
	holds(t, d, "abc")
	writes(t, d, 1, "", api.OK)
	stands(t, d, false, 0)
	writes(t, d, 0, "xyz", api.ErrDisk)
	stands(t, d, true, 0)
	d.Crash([]bool{true})
	holds(t, d, "abc")
}

// What is ahead of the sector at which the power goes is written, of the same Write too; that sector and those behind it are not.
func TestP9_1FuseWithinAWrite(t *testing.T) {
	for n, want := range []string{"abcde", "aWcde", "aWXde", "aWXYe"} {
		d := synced(t, "abcde")
		d.SetFuse(n)
		writes(t, d, 1, "WXYZ", api.ErrDisk)
		stands(t, d, true, n)
		d.Crash([]bool{true})
		stands(t, d, false, 0)
		holds(t, d, want)
	}
	d := synced(t, "abcde")
	d.SetFuse(4)
	writes(t, d, 1, "WXYZ", api.OK)
	stands(t, d, false, 4)
	holds(t, d, "aWXYZ")
	writes(t, d, 0, "V", api.ErrDisk)
	stands(t, d, true, 4)
	d.Crash([]bool{true})
	holds(t, d, "aWXYZ")
}

// The fuse goes on from one Write to the next one, which it ends at its first sector.
func TestP9_1FuseOverWrites(t *testing.T) {
	d := synced(t, "abcd")
	d.SetFuse(3)
	writes(t, d, 0, "X", api.OK)
	writes(t, d, 3, "", api.OK)
	writes(t, d, 3, "VW", api.ErrArg)
	reads(t, d, 0, 4, api.OK)
	writes(t, d, 0, "YZ", api.OK)
	stands(t, d, false, 3)
	holds(t, d, "YZcd")
	writes(t, d, 2, "UU", api.ErrDisk)
	stands(t, d, true, 3)
	d.Crash([]bool{true, true, false})
	holds(t, d, "Ybcd")
}

// A Sync is one of those that the fuse counts; that with which the power goes isn't done.
func TestP9_1FuseAtASync(t *testing.T) {
	d := synced(t, "ab")
	d.SetFuse(2)
	writes(t, d, 0, "XY", api.OK)
	syncs(t, d, api.ErrDisk)
	stands(t, d, true, 2)
	d.Crash([]bool{false, true})
	holds(t, d, "aY")

	d.SetFuse(0)
	syncs(t, d, api.ErrDisk)
	stands(t, d, true, 0)
	d.Crash(nil)
	holds(t, d, "aY")

	d.SetFuse(3)
	syncs(t, d, api.OK)
	writes(t, d, 0, "V", api.OK)
	syncs(t, d, api.OK)
	writes(t, d, 1, "W", api.ErrDisk)
	stands(t, d, true, 0)
	d.Crash(nil)
	holds(t, d, "VY")
}

func TestP9_1FuseBelowNone(t *testing.T) {
	for _, n := range []int{-1, -2, -5, math.MinInt} {
		d := synced(t, "abc")
		d.SetFuse(0)
		d.SetFuse(n)
		for range 50 {
			writes(t, d, 0, "xyz", api.OK)
			syncs(t, d, api.OK)
		}
		stands(t, d, false, 0)
		holds(t, d, "xyz")
	}
}

func TestP9_1FuseOfMany(t *testing.T) {
	d := synced(t, "abc")
	d.SetFuse(math.MaxInt)
	for range 50 {
		writes(t, d, 0, "xyz", api.OK)
		syncs(t, d, api.OK)
	}
	d.SetFuse(100)
	for range 25 {
		writes(t, d, 0, "abc", api.OK)
		syncs(t, d, api.OK)
	}
	writes(t, d, 0, "d", api.ErrDisk)
	stands(t, d, true, 0)
}

// A fuse that is set anew counts from there on, whatever was left of the one ahead of it.
func TestP9_1FuseSetAnew(t *testing.T) {
	d := synced(t, "abcd")
	d.SetFuse(1)
	writes(t, d, 0, "X", api.OK)
	d.SetFuse(2)
	writes(t, d, 1, "YZ", api.OK)
	stands(t, d, false, 3)
	d.SetFuse(5)
	d.SetFuse(1)
	writes(t, d, 2, "UV", api.ErrDisk)
	stands(t, d, true, 4)
	d.Crash([]bool{true})
	holds(t, d, "XYUd")
}

// No fuse brings the power back, and none that is set meanwhile stays.
func TestP9_1FuseWhileDown(t *testing.T) {
	for _, n := range []int{-1, 0, 1, 7} {
		d := synced(t, "abcd")
		d.SetFuse(2)
		writes(t, d, 0, "XYZ", api.ErrDisk)
		d.SetFuse(n)
		stands(t, d, true, 2)
		for range 2 {
			writes(t, d, 0, "", api.ErrDisk)
			writes(t, d, 3, "W", api.ErrDisk)
			syncs(t, d, api.ErrDisk)
			reads(t, d, 0, 4, api.ErrDisk)
			reads(t, d, 4, 0, api.ErrDisk)
		}
		stands(t, d, true, 2)
		d.Crash([]bool{true})
		holds(t, d, "XYcd")
		for range 10 {
			writes(t, d, 0, "abcd", api.OK)
			syncs(t, d, api.OK)
		}
	}
}

// The chapter's example.
func TestP9_2Example(t *testing.T) {
	d := New(2)
	writes(t, d, 0, "ab", api.OK)
	d.Crash([]bool{true, false})
	holds(t, d, "a"+noughts(1))
	stands(t, d, false, 0)
}

func TestP9_2Lists(t *testing.T) {
	for _, c := range []struct {
		keep []bool
		want string
	}{
		{nil, "abcde"}, {[]bool{}, "abcde"}, {[]bool{false}, "abcde"}, {[]bool{true}, "VWXYZ"},
		// Shorter than the five: again and again.
		{[]bool{true, false}, "VbXdZ"}, {[]bool{false, true}, "aWcYe"}, {[]bool{true, false, false}, "VbcYe"},
		{[]bool{false, false, true, true}, "abXYe"}, {[]bool{true, false, false, false}, "VbcdZ"},
		// As long, and longer.
		{[]bool{false, true, true, false, true}, "aWXdZ"}, {[]bool{false, false, false, false, false, true}, "abcde"},
		{[]bool{true, false, false, false, false, true, true, true, true, true}, "Vbcde"},
	} {
		d := synced(t, "abcde")
		writes(t, d, 0, "VWXYZ", api.OK)
		d.Crash(c.keep)
		holds(t, d, c.want)
		stands(t, d, false, 0)
	}
}

// In the order in which they were written, not in that of the sectors; a later Write goes on in the list.
func TestP9_2Order(t *testing.T) {
	d := synced(t, "abcd")
	writes(t, d, 3, "Z", api.OK)
	writes(t, d, 1, "XY", api.OK)
	writes(t, d, 0, "W", api.OK)
	d.Crash([]bool{true, false, true, false})
	holds(t, d, "abYZ")
}

// Of what one sector was made the last that is kept counts, be it an earlier one.
func TestP9_2SectorWrittenOften(t *testing.T) {
	for _, c := range []struct {
		keep []bool
		want string
	}{
		{[]bool{true, false, false}, "1b"}, {[]bool{false, true, false}, "2b"}, {[]bool{false, false, true}, "3b"},
		{[]bool{true, true, false}, "2b"}, {[]bool{true, false, true}, "3b"}, {[]bool{false, true, true}, "3b"},
		{[]bool{true}, "3b"}, {[]bool{false}, "ab"}, {[]bool{true, false}, "3b"}, {[]bool{false, true}, "2b"}, {nil, "ab"},
	} {
		d := synced(t, "ab")
		writes(t, d, 0, "1", api.OK)
		writes(t, d, 0, "2", api.OK)
		writes(t, d, 0, "3", api.OK)
		holds(t, d, "3b")
		d.Crash(c.keep)
		holds(t, d, c.want)
		stands(t, d, false, 0)
	}
}

// What a crash leaves is synced: the next one takes nothing of it back.
func TestP9_2Twice(t *testing.T) {
	d := synced(t, "abc")
	writes(t, d, 0, "XYZ", api.OK)
	d.Crash([]bool{false, true})
	holds(t, d, "aYc")
	d.Crash([]bool{true})
	holds(t, d, "aYc")
	d.Crash(nil)
	holds(t, d, "aYc")
	writes(t, d, 1, "V", api.OK)
	writes(t, d, 0, "W", api.OK)
	holds(t, d, "WVc")
	d.Crash([]bool{false, true})
	holds(t, d, "WYc")
	d.Crash([]bool{true})
	holds(t, d, "WYc")
}

// Each crash begins at the list's beginning, with the first sector that was written behind the last Sync or crash.
func TestP9_2ListBeginsAnew(t *testing.T) {
	d := synced(t, "abc")
	for _, c := range [][2]string{{"XU", "Xbc"}, {"YV", "Ybc"}, {"ZW", "Zbc"}} {
		writes(t, d, 0, c[0], api.OK)
		d.Crash([]bool{true, false, false})
		holds(t, d, c[1])
	}
	d = synced(t, "abc")
	writes(t, d, 2, "V", api.OK)
	syncs(t, d, api.OK)
	writes(t, d, 2, "W", api.OK)
	d.Crash([]bool{true, false})
	holds(t, d, "abW")
}

// What was synced no crash takes back, also what was written over it since.
func TestP9_2Synced(t *testing.T) {
	d := synced(t, "abc")
	writes(t, d, 0, "X", api.OK)
	syncs(t, d, api.OK)
	writes(t, d, 0, "YZ", api.OK)
	d.Crash([]bool{false})
	holds(t, d, "Xbc")
}

// The power is there again, and goes no more, also if it had not gone.
func TestP9_2FuseIsGone(t *testing.T) {
	for _, fuse := range []int{0, 1, 2, 3, 4, 9} {
		d := synced(t, "abc")
		d.SetFuse(fuse)
		d.Write(0, filled("XYZ"))
		d.Sync()
		if d.Down() != (fuse < 4) {
			t.Errorf("%d: %v", fuse, d.Down())
		}
		d.Crash([]bool{true})
		stands(t, d, false, 0)
		for range 10 {
			writes(t, d, 0, "def", api.OK)
			syncs(t, d, api.OK)
		}
		stands(t, d, false, 0)
		holds(t, d, "def")
	}
}

// A crash while the power is there is one likewise.
func TestP9_2WhileThePowerIsThere(t *testing.T) {
	d := New(3)
	d.Crash([]bool{true})
	holds(t, d, noughts(3))
	writes(t, d, 0, "abc", api.OK)
	stands(t, d, false, 3)
	d.Crash([]bool{false, true, true})
	stands(t, d, false, 0)
	holds(t, d, noughts(1)+"bc")
	d.SetFuse(1)
	d.Crash(nil)
	writes(t, d, 0, "xyz", api.OK)
	syncs(t, d, api.OK)
	holds(t, d, "xyz")
}
