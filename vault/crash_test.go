package vault

import (
	"slices"
	"testing"

	"postilion/api"
	"postilion/disk"
)

// lists answers each list of n of true and false, and that of none.
func lists(n int) [][]bool {
	all := [][]bool{nil}
	for bits := range 1 << n {
		keep := make([]bool, n)
		for i := range keep {
			keep[i] = bits>>i&1 == 1
		}
		all = append(all, keep)
	}
	return all
}

// filledVault answers a vault that has kept these, one behind another, and its disk.
func filledVault(t *testing.T, sectors int, texts []string) (*disk.Disk, *Vault) {
	t.Helper()
	d := disk.New(sectors)
	v := opens(t, d)
	for _, text := range texts {
		keeps(t, v, text, api.OK)
	}
	return d, v
}

// The power goes at each sector and at each Sync of a Keep, and the crash keeps each choice of what was unsynced: what is there is what was kept, but for a head that was written, and kept by the crash.
func TestP10_3EachFuseAndList(t *testing.T) {
	histories := [][]string{{}, {mark("a", 150)}, {mark("a", 64), mark("b", 192)}, {mark("a", 192), "", mark("c", 192)}, {mark("a", 192), mark("b", 3), ""}}
	for _, texts := range histories {
		for _, size := range []int{0, 1, 64, 65, 150, 192} {
			n := (size + 63) / 64
			for fuse := range n + 5 {
				for _, keep := range lists(n) {
					cutOff(t, texts, mark("n", size), fuse, keep)
				}
			}
		}
	}
	for _, keep := range [][]bool{{false}, {true}, {true, false}, {false, true}} {
		for fuse := range 5 {
			cutOff(t, []string{"x", "y"}, "", fuse, keep)
		}
	}
}

// cutOff lets a Keep's power go behind so many sectors and Syncs. The bytes' sectors and their Sync come first, then the head and its Sync.
func cutOff(t *testing.T, texts []string, text string, fuse int, keep []bool) {
	t.Helper()
	d, v := filledVault(t, 8, texts)
	old, number := string(v.Load()), v.Number()
	d.SetFuse(fuse)
	n := (len(text) + 63) / 64
	done := fuse >= n+3
	e, want := v.Keep([]byte(text)), api.ErrDisk
	if done {
		want = api.OK
	}
	if e != want || v.Over() == done || d.Down() == done {
		t.Errorf("fuse %d: %v, over %v, down %v", fuse, e, v.Over(), d.Down())
	}
	if left := d.Unsynced(); !done && left != unsyncedAt(fuse, n) {
		t.Errorf("fuse %d: %d unsynced", fuse, left)
	}
	if done {
		tells(t, v, text, number+1)
	} else {
		tells(t, v, old, number)
	}
	d.Crash(keep)
	w := opens(t, d)
	if done || fuse == n+2 && len(keep) > 0 && keep[0] {
		old, number = text, number+1
	}
	tells(t, w, old, number)
	goesOn(t, d, w, number)
}

// unsyncedAt answers how many sectors are unsynced when the power goes behind so many sectors and Syncs of a Keep of n sectors.
func unsyncedAt(fuse, n int) int {
	if fuse <= n {
		return fuse
	}
	return fuse - n - 1
}

// goesOn holds that what is kept behind a crash is kept, also behind crashes.
func goesOn(t *testing.T, d *disk.Disk, v *Vault, number uint64) {
	t.Helper()
	for i, text := range []string{mark("1", 192), "2", ""} {
		keeps(t, v, text, api.OK)
		tells(t, v, text, number+uint64(i)+1)
		d.Crash([]bool{i%2 == 0})
		tells(t, opens(t, d), text, number+uint64(i)+1)
	}
}

// Two Keeps that are cut off, one behind another, are no more than one.
func TestP10_3Twice(t *testing.T) {
	for first := range 8 {
		for second := range 8 {
			for _, keep := range lists(3) {
				d, v := filledVault(t, 8, []string{mark("a", 192), mark("b", 192)})
				d.SetFuse(first)
				v.Keep([]byte(mark("c", 192)))
				d.Crash(keep)
				v = opens(t, d)
				old, number := string(v.Load()), v.Number()
				d.SetFuse(second)
				e := v.Keep([]byte(mark("d", 192)))
				d.Crash(keep)
				w := opens(t, d)
				if e == api.OK || w.Number() != number {
					old, number = mark("d", 192), number+1
				}
				tells(t, w, old, number)
				goesOn(t, d, w, number)
			}
		}
	}
}

// A vault that hasn't met ErrDisk goes on behind a crash: what it has kept was synced.
func TestP10_3CrashBetweenKeeps(t *testing.T) {
	d, v := filledVault(t, 6, nil)
	for i := range 20 {
		text := mark(string(rune('a'+i)), i*13%129)
		keeps(t, v, text, api.OK)
		d.Crash([][]bool{nil, {false}, {true}}[i%3])
		tells(t, v, text, uint64(i+1))
		tells(t, opens(t, d), text, uint64(i+1))
	}
}

// A draw answers numbers that look drawn, and are the same each time.
type draw uint32

// below answers one from 0 to n - 1.
func (x *draw) below(n int) int {
	*x = *x*1664525 + 1013904223
	return int(uint64(*x) * uint64(n) >> 32)
}

// text answers up to n bytes.
func (x *draw) text(n int) string {
	all := make([]byte, x.below(n+1))
	for i := range all {
		all[i] = byte(x.below(256))
	}
	return string(all)
}

// A pair is a vault, and what the model says of it: what was kept, by number, and what may have been kept behind it.
type pair struct {
	t     *testing.T
	d     *disk.Disk
	v     *Vault
	kept  []string
	maybe []string
	over  bool
}

// look holds what the vault tells against what was kept.
func (p *pair) look() {
	p.t.Helper()
	last := len(p.kept) - 1
	tells(p.t, p.v, p.kept[last], uint64(last))
	if p.v.Over() != p.over {
		p.t.Fatalf("over %v", p.v.Over())
	}
}

func (p *pair) keep(text string) {
	p.t.Helper()
	e, down := p.v.Keep([]byte(text)), p.d.Down()
	switch {
	case p.over:
		if e != api.ErrDisk {
			p.t.Fatalf("over: %v", e)
		}
	case len(text) > p.v.Room():
		if e != api.ErrLong {
			p.t.Fatalf("long: %v", e)
		}
	case down:
		if e != api.ErrDisk {
			p.t.Fatalf("down: %v", e)
		}
		p.over, p.maybe = true, []string{text}
	default:
		if e != api.OK {
			p.t.Fatalf("Keep: %v", e)
		}
		p.kept, p.maybe = append(p.kept, text), nil
	}
}

// crash opens the vault anew; if a Keep was cut off, it tells whether that was done.
func (p *pair) crash(keep []bool) {
	p.t.Helper()
	p.d.Crash(keep)
	p.v = opens(p.t, p.d)
	if len(p.maybe) > 0 && p.v.Number() == uint64(len(p.kept)) {
		p.kept = append(p.kept, p.maybe...)
	}
	p.over, p.maybe = false, nil
}

func (p *pair) step(x *draw) {
	p.t.Helper()
	switch x.below(8) {
	case 0:
		keep := make([]bool, x.below(6))
		for i := range keep {
			keep[i] = x.below(2) == 0
		}
		p.crash(keep)
	case 1:
		p.d.SetFuse(x.below(24) - 2)
	case 2:
		if p.v.Over() || p.d.Down() {
			refuses(p.t, p.d, api.ErrDisk)
		} else {
			p.v = opens(p.t, p.d)
		}
	default:
		p.keep(x.text(p.v.Room() + 8))
	}
	p.look()
}

func TestP10_3Model(t *testing.T) {
	x := draw(10)
	for sectors := 4; sectors < 16; sectors++ {
		for range 30 {
			d := disk.New(sectors)
			p := &pair{t: t, d: d, v: opens(t, d), kept: []string{""}}
			for range 120 {
				p.step(&x)
			}
		}
	}
}

// What a vault answers hangs on its own history alone: two with the same one answer the same, whatever another does between.
func TestP10_3Alike(t *testing.T) {
	x, y, z := draw(3), draw(3), draw(4)
	pairs := make([]*pair, 3)
	for i := range pairs {
		d := disk.New(9)
		pairs[i] = &pair{t: t, d: d, v: opens(t, d), kept: []string{""}}
	}
	for range 500 {
		pairs[0].step(&x)
		pairs[2].step(&z)
		pairs[1].step(&y)
		if !slices.Equal(pairs[0].v.Load(), pairs[1].v.Load()) || pairs[0].v.Number() != pairs[1].v.Number() {
			t.Fatal("two with one history differ")
		}
	}
}
