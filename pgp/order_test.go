package pgp

import (
	"slices"
	"testing"

	"postilion/api"
)

// A trial is a message and who opens it, both of which may be spoiled: in its pieces, in the bytes inside, in those that are sealed, and in the message's own.
type trial struct {
	m                     modelled
	o                     opener
	inside, sealed, bytes func([]byte) []byte
}

// message is the message's bytes, with all that is spoiled.
func (x trial) message() []byte {
	sealed := x.sealed(x.m.sealed(x.inside(x.m.inside())))
	return x.bytes(slices.Concat(written(1, x.m.forWhom), written(18, sealed)))
}

// tried answers a message that nothing is spoiled of.
func tried() trial {
	l, o := right(5)
	same := func(b []byte) []byte { return b }
	return trial{m: l.modelled(), o: o, inside: same, sealed: same, bytes: same}
}

// A flaw is one that a question of Open may have; of each question there may be more than one.
type flaw struct {
	name     string
	question int
	want     api.Errno
	apply    func(*trial)
}

// spoilt answers a flaw of bytes, at a place of a trial.
func spoilt(place func(*trial) *func([]byte) []byte, how func([]byte) []byte) func(*trial) {
	return func(x *trial) { *place(x) = how }
}

// flaws answers some, in the order in which they are asked for.
func flaws() []flaw {
	bytes := func(x *trial) *func([]byte) []byte { return &x.bytes }
	sealed := func(x *trial) *func([]byte) []byte { return &x.sealed }
	inside := func(x *trial) *func([]byte) []byte { return &x.inside }
	at := func(i int) func([]byte) []byte {
		return func(b []byte) []byte { return with(b, i, 16) }
	}
	behind := func(more ...byte) func([]byte) []byte {
		return func(b []byte) []byte { return slices.Concat(b, more) }
	}
	short := func(b []byte) []byte { return b[:len(b)-1] }
	return []flaw{
		{"too long a packet behind it", 1, api.ErrLong, spoilt(bytes, behind(tooLong()...))},
		{"cut off", 1, api.ErrForm, spoilt(bytes, short)},
		{"a third packet", 2, api.ErrForm, spoilt(bytes, behind(0xd5, 0))},
		{"no session key's body", 3, api.ErrForm, func(x *trial) { x.m.forWhom[0]++ }},
		{"for another one", 4, api.ErrNone, func(x *trial) { x.m.forWhom[3]++ }},
		{"another time", 4, api.ErrNone, func(x *trial) { x.o.kTime++ }},
		{"small order", 5, api.ErrForm, func(x *trial) { clear(x.m.forWhom[36:68]) }},
		{"the wrapped key", 6, api.ErrAuth, func(x *trial) { x.m.forWhom[100]++ }},
		{"the sealed version", 7, api.ErrForm, spoilt(sealed, at(0))},
		{"the sealed kind", 8, api.ErrKind, spoilt(sealed, at(1))},
		{"sealed by another session key", 9, api.ErrAuth, func(x *trial) { x.m.session[0]++ }},
		{"the chunks", 9, api.ErrAuth, spoilt(sealed, at(50))},
		{"too long a packet inside", 10, api.ErrLong, spoilt(inside, behind(tooLong()...))},
		{"a packet more inside", 11, api.ErrForm, spoilt(inside, behind(0xd5, 0))},
		{"the announcement", 11, api.ErrForm, func(x *trial) { x.m.announced[2]++ }},
		{"the literal", 11, api.ErrForm, func(x *trial) { x.m.literal[0]++ }},
		{"the signer", 12, api.ErrSig, func(x *trial) { x.m.announced[40]++ }},
		{"the certificate's fingerprint", 12, api.ErrSig, func(x *trial) { x.o.from.Prints[0][31]++ }},
		{"the signature's type", 13, api.ErrForm, func(x *trial) { x.m.signature[1]++ }},
		{"the signature's signer", 13, api.ErrForm, func(x *trial) { x.m.signature[20]++ }},
		{"the signed time", 14, api.ErrSig, func(x *trial) { x.m.signature[13]++ }},
		{"the signed body", 14, api.ErrSig, func(x *trial) { x.m.literal[6]++ }},
		{"the key", 14, api.ErrSig, func(x *trial) { x.o.from.Sign[3]++ }},
		{"the announced salt", 15, api.ErrForm, func(x *trial) { x.m.announced[5]++ }},
	}
}

// Each two flaws at once: the one that is asked for first is told.
func TestP17_1OpenWhichComesFirst(t *testing.T) {
	t.Parallel()
	all := flaws()
	for i, first := range all {
		for _, second := range all[i:] {
			if first.name != second.name && first.question == second.question {
				continue
			}
			x := tried()
			second.apply(&x)
			if first.name != second.name {
				first.apply(&x)
			}
			if e := x.o.asModelled(t, x.message()); e != first.want {
				t.Errorf("%s and %s: %v, not %v", first.name, second.name, e, first.want)
			}
		}
	}
	x := tried()
	if e := x.o.asModelled(t, x.message()); e != api.OK {
		t.Error(e)
	}
}

// Seal asks how long the body is ahead of whom it is for.
func TestP17_1SealWhichComesFirst(t *testing.T) {
	for _, small := range smalls() {
		l, _ := right(2401)
		l.to.Box = small
		l.fails(t, api.ErrLong)
		l.body = l.body[:2400]
		l.fails(t, api.ErrForm)
	}
}

// Drawn messages, of which some pieces are others, are what the model says.
func TestP17_1OpenDrawn(t *testing.T) {
	t.Parallel()
	d := drawnBy(40)
	told := map[api.Errno]int{}
	all := flaws()
	for range 1000 {
		l, o := d.letter(d.IntN(400))
		x := tried()
		x.m, x.o = l.modelled(), o
		x.m.c = byte(d.IntN(12))
		if d.IntN(2) == 0 && len(l.body) > 0 {
			all[d.IntN(len(all))].apply(&x)
		}
		switch d.IntN(12) {
		case 0:
			x.m.announced = d.bytes(70)
		case 1:
			x.m.literal = x.m.literal[:d.IntN(len(x.m.literal)+1)]
		case 2:
			x.inside = func(b []byte) []byte { return with(b, d.IntN(len(b)), byte(1<<d.IntN(8))) }
		case 3:
			x.inside = func(b []byte) []byte { return slices.Concat(b[72:], b[:72]) }
		case 4:
			x.bytes = func(b []byte) []byte { return with(b, d.IntN(len(b)), byte(1<<d.IntN(8))) }
		}
		told[x.o.asModelled(t, x.message())]++
	}
	for _, e := range []api.Errno{api.OK, api.ErrForm, api.ErrNone, api.ErrSig, api.ErrAuth, api.ErrLong, api.ErrKind} {
		if told[e] < 15 {
			t.Errorf("%v: told %d times", e, told[e])
		}
	}
	if len(told) != 7 {
		t.Errorf("%v", told)
	}
}

// Whatever comes in is what the model says: as a message, and as what is sealed in one.
func FuzzP17_1(f *testing.F) {
	l, o := right(5)
	m := l.modelled()
	f.Add(m.bytes(), m.inside())
	f.Add(m.bytes()[:111], m.inside()[:72])
	f.Add([]byte{}, []byte{})
	f.Fuzz(func(t *testing.T, b, inside []byte) {
		o.asModelled(t, b)
		o.asModelled(t, m.around(inside))
	})
}

// Whatever Seal is asked, it answers what the model does, and Open what was sealed.
func FuzzP17_2(f *testing.F) {
	f.Add(uint64(1), []byte("hi"))
	f.Add(uint64(2), []byte{})
	f.Fuzz(func(t *testing.T, seed uint64, body []byte) {
		l, o := drawnBy(seed).letter(0)
		l.body = body
		if len(body) > 2400 {
			l.fails(t, api.ErrLong)
			return
		}
		o.opens(t, l.seals(t), body, l.time)
	})
}
