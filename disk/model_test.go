package disk

import (
	"bytes"
	"math"
	"testing"

	"postilion/api"
)

// The model: the chapter's words once more. It keeps what each sector was made, and looks for what counts when it is asked.

// A version is what a sector was made, and as the how manyeth of all unsynced ones.
type version struct {
	turn int
	text []byte
}

// A book is a disk of the model: of each sector what is synced, and what was written since.
type book struct {
	synced [][]byte
	since  [][]version
	count  int
	down   bool
	fuse   int
}

func newBook(sectors int) *book {
	b := &book{since: make([][]version, sectors), fuse: -1}
	for range sectors {
		b.synced = append(b.synced, make([]byte, api.SectorSize))
	}
	return b
}

// has asks each sector by itself.
func (b *book) has(at, n int) bool {
	if n < 0 || n > len(b.synced) || at < 0 || at > len(b.synced) {
		return false
	}
	for i := range n {
		if at+i >= len(b.synced) {
			return false
		}
	}
	return true
}

func (b *book) read(at, n int) ([]byte, api.Errno) {
	if !b.has(at, n) {
		return nil, api.ErrArg
	}
	if b.down {
		return nil, api.ErrDisk
	}
	var all []byte
	for i := at; i < at+n; i++ {
		all = append(all, b.text(i, []bool{true})...)
	}
	return all, api.OK
}

// text answers what a sector is, if of what isn't synced that counts which keep keeps.
func (b *book) text(i int, keep []bool) []byte {
	for k := len(b.since[i]) - 1; k >= 0; k-- {
		v := b.since[i][k]
		if len(keep) > 0 && keep[v.turn%len(keep)] {
			return v.text
		}
	}
	return b.synced[i]
}

// burns tells whether the power goes with one thing more.
func (b *book) burns() bool {
	b.down = b.fuse == 0
	if b.fuse > 0 {
		b.fuse--
	}
	return b.down
}

func (b *book) write(at int, text []byte) api.Errno {
	if len(text)%api.SectorSize != 0 || !b.has(at, len(text)/api.SectorSize) {
		return api.ErrArg
	}
	if b.down {
		return api.ErrDisk
	}
	for ; len(text) > 0; text = text[api.SectorSize:] {
		if b.burns() {
			return api.ErrDisk
		}
		b.since[at] = append(b.since[at], version{b.count, bytes.Clone(text[:api.SectorSize])})
		b.count++
		at++
	}
	return api.OK
}

func (b *book) sync() api.Errno {
	if b.down || b.burns() {
		return api.ErrDisk
	}
	b.settle([]bool{true})
	return api.OK
}

func (b *book) crash(keep []bool) {
	b.down, b.fuse = false, -1
	b.settle(keep)
}

func (b *book) settle(keep []bool) {
	for i := range b.synced {
		b.synced[i], b.since[i] = b.text(i, keep), nil
	}
	b.count = 0
}

// A pair is a disk, and the model's of as many sectors: each thing is done to both.
type pair struct {
	t *testing.T
	d *Disk
	b *book
}

func newPair(t *testing.T, sectors int) *pair {
	return &pair{t, New(sectors), newBook(sectors)}
}

func (p *pair) read(at, n int) {
	p.t.Helper()
	got, e := p.d.Read(at, n)
	want, code := p.b.read(at, n)
	if !bytes.Equal(got, want) || e != code {
		p.t.Fatalf("Read %d, %d: %x, %v, not %x, %v", at, n, got, e, want, code)
	}
}

// look holds all that may be asked.
func (p *pair) look() {
	p.t.Helper()
	if got := p.d.Sectors(); got != len(p.b.synced) {
		p.t.Fatalf("Sectors: %d, not %d", got, len(p.b.synced))
	}
	if got := p.d.Unsynced(); got != p.b.count {
		p.t.Fatalf("Unsynced: %d, not %d", got, p.b.count)
	}
	if got := p.d.Down(); got != p.b.down {
		p.t.Fatalf("Down: %v", got)
	}
	p.read(0, len(p.b.synced))
}

func (p *pair) write(at int, text []byte) {
	p.t.Helper()
	if got, want := p.d.Write(at, text), p.b.write(at, text); got != want {
		p.t.Fatalf("Write %d, %d bytes: %v, not %v", at, len(text), got, want)
	}
	p.look()
}

func (p *pair) sync() {
	p.t.Helper()
	if got, want := p.d.Sync(), p.b.sync(); got != want {
		p.t.Fatalf("Sync: %v, not %v", got, want)
	}
	p.look()
}

func (p *pair) fuse(n int) {
	p.t.Helper()
	p.d.SetFuse(n)
	p.b.fuse = max(n, -1)
	p.look()
}

func (p *pair) crash(keep ...bool) {
	p.t.Helper()
	p.d.Crash(keep)
	p.b.crash(keep)
	p.look()
}

// A draw answers numbers that look drawn, and are the same each time.
type draw uint32

// below answers one from 0 to n - 1.
func (x *draw) below(n int) int {
	*x = *x*1664525 + 1013904223
	return int(uint64(*x) * uint64(n) >> 32)
}

// text answers so many bytes.
func (x *draw) text(n int) []byte {
	all := make([]byte, n)
	for i := range all {
		all[i] = byte(x.below(256))
	}
	return all
}

// list answers up to n of true and false.
func (x *draw) list(n int) []bool {
	all := make([]bool, x.below(n+1))
	for i := range all {
		all[i] = x.below(2) == 0
	}
	return all
}

// step does something that is drawn.
func (p *pair) step(x *draw) {
	p.t.Helper()
	n := len(p.b.synced)
	switch x.below(16) {
	case 0, 1:
		p.sync()
	case 2:
		p.fuse(x.below(14) - 2)
	case 3:
		p.crash(x.list(9)...)
	case 4:
		p.read(x.below(n+5)-2, x.below(n+5)-2)
	case 5:
		p.write(x.below(n+1), x.text(x.below(200)))
	case 6:
		p.write(x.below(n+5)-2, x.text(api.SectorSize*x.below(n+3)))
	default:
		at := x.below(n + 1)
		p.write(at, x.text(api.SectorSize*x.below(min(n-at, 4)+1)))
	}
}

func TestP9_1Model(t *testing.T) {
	x := draw(9)
	for sectors := range 12 {
		for range 20 {
			p := newPair(t, sectors)
			for range 150 {
				p.step(&x)
			}
		}
	}
}

// Of a great disk too.
func TestP9_1ModelOfMany(t *testing.T) {
	x := draw(10)
	p := newPair(t, api.MaxSectors)
	for range 40 {
		p.step(&x)
	}
}

// Each place and each count next to the edges.
func TestP9_1PlacesAndCounts(t *testing.T) {
	for _, sectors := range []int{0, 1, 2, 5} {
		p := newPair(t, sectors)
		x := draw(sectors)
		p.write(0, x.text(sectors*api.SectorSize))
		numbers := []int{math.MinInt, math.MinInt + 1, -api.SectorSize, math.MaxInt / 2, math.MaxInt/2 + 1, math.MaxInt - 1, math.MaxInt}
		for i := -3; i <= sectors+3; i++ {
			numbers = append(numbers, i, math.MaxInt-i, math.MinInt+i)
		}
		for _, at := range numbers {
			for _, n := range numbers {
				p.read(at, n)
			}
			for n := range sectors + 3 {
				p.write(at, x.text(n*api.SectorSize))
			}
		}
	}
}

// Each order of four writes on two sectors, and each list of up to five.
func TestP9_2EachOrderAndList(t *testing.T) {
	x := draw(11)
	base := x.text(2 * api.SectorSize)
	texts := [][]byte{x.text(api.SectorSize), x.text(api.SectorSize), x.text(api.SectorSize), x.text(api.SectorSize)}
	for order := range 16 {
		for size := range 6 {
			for bits := range 1 << size {
				p := newPair(t, 2)
				p.write(0, base)
				p.sync()
				for i, text := range texts {
					p.write(order>>i&1, text)
				}
				keep := make([]bool, size)
				for i := range keep {
					keep[i] = bits>>i&1 == 1
				}
				p.crash(keep...)
			}
		}
	}
}

// The power goes at each place of a row of Writes and Syncs, and each list of two says what is left of it.
func TestP9_2EachFuse(t *testing.T) {
	for fuse := -1; fuse <= 12; fuse++ {
		for bits := range 4 {
			x := draw(12)
			p := newPair(t, 5)
			p.fuse(fuse)
			p.write(0, x.text(3*api.SectorSize))
			p.write(2, nil)
			p.sync()
			p.write(2, x.text(2*api.SectorSize))
			p.write(1, x.text(2*api.SectorSize))
			p.sync()
			p.sync()
			p.write(4, x.text(api.SectorSize))
			p.crash(bits&1 == 1, bits&2 == 2)
			p.write(0, x.text(5*api.SectorSize))
			p.crash()
		}
	}
}
