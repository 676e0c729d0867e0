package cert

import (
	"bytes"
	"crypto/ed25519"
	"slices"
	"testing"

	"postilion/api"
	"postilion/packet"
)

// modelledParse answers what Parse must, question by question.
func modelledParse(b []byte) (Cert, api.Errno) {
	list, e := packet.Parse(b)
	if e != api.OK {
		return Cert{}, e
	}
	var tags []int
	for _, p := range list {
		tags = append(tags, p.Tag)
	}
	if !slices.Equal(tags, []int{6, 2, 14, 2}) {
		return Cert{}, api.ErrForm
	}
	first, second := list[0].Body, list[2].Body
	for i, body := range [][]byte{first, second} {
		if len(body) != 42 || body[0] != 6 || body[5] != []byte{27, 25}[i] || string(body[6:10]) != "\x00\x00\x00\x20" {
			return Cert{}, api.ErrForm
		}
	}
	if !bytes.Equal(first[1:5], second[1:5]) {
		return Cert{}, api.ErrForm
	}
	fingerprint := modelledPrint(first)
	whats := [][]byte{modelledForm(first), slices.Concat(modelledForm(first), modelledForm(second))}
	for i, body := range [][]byte{list[1].Body, list[3].Body} {
		start := []byte{6, []byte{31, 24}[i], 27, 10, 0, 0, 0, 41, 5, 2}
		if len(body) != 152 || !bytes.Equal(body[:10], start) || string(body[14:17]) != "\x22\x21\x06" || !bytes.Equal(body[17:49], fingerprint[:]) || string(body[49:53]) != "\x00\x00\x00\x00" || body[55] != 32 {
			return Cert{}, api.ErrForm
		}
		m := modelled{head: body[:49], salt: body[56:88]}
		hash := m.hash(whats[i])
		if !bytes.Equal(hash[:2], body[53:55]) || !ed25519.Verify(first[10:], hash, body[88:]) {
			return Cert{}, api.ErrSig
		}
	}
	if !bytes.Equal(list[1].Body[10:14], first[1:5]) || !bytes.Equal(list[3].Body[10:14], first[1:5]) {
		return Cert{}, api.ErrForm
	}
	return plan{first: first, other: second}.says(), api.OK
}

// asModelled holds that Parse answers what the model does, and answers its error.
func asModelled(t *testing.T, b []byte) api.Errno {
	t.Helper()
	want, e := modelledParse(b)
	if e == api.OK {
		parses(t, b, want)
	} else {
		refuses(t, b, e)
	}
	return e
}

// A flaw is one that a certificate may have.
type flaw struct {
	want  api.Errno
	apply func(*[]api.Packet, *plan)
}

// flaws answers some, in the order in which they are asked for.
func flaws() []flaw {
	redone := func(p *plan, list *[]api.Packet) {
		(*list)[1].Body, (*list)[3].Body = p.signature(0), p.signature(1)
	}
	return []flaw{
		{api.ErrForm, func(list *[]api.Packet, _ *plan) { *list = append(*list, api.Packet{Tag: 2}) }},
		{api.ErrForm, func(list *[]api.Packet, _ *plan) { (*list)[3].Tag = 13 }},
		{api.ErrForm, func(list *[]api.Packet, _ *plan) { (*list)[2].Body = (*list)[2].Body[:41] }},
		{api.ErrForm, func(list *[]api.Packet, _ *plan) { (*list)[2].Body[4]++ }},
		{api.ErrSig, func(list *[]api.Packet, _ *plan) { (*list)[1].Body = broken((*list)[1].Body) }},
		{api.ErrForm, func(list *[]api.Packet, _ *plan) { (*list)[3].Body[0] = 4 }},
		{api.ErrSig, func(list *[]api.Packet, _ *plan) { (*list)[3].Body = broken((*list)[3].Body) }},
		{api.ErrForm, func(list *[]api.Packet, p *plan) { p.times[0]++; redone(p, list) }},
		{api.ErrForm, func(list *[]api.Packet, p *plan) { p.times[1]--; redone(p, list) }},
	}
}

// Each two flaws at once: the one that is asked for first is told.
func TestP14_2ParseWhichComesFirst(t *testing.T) {
	k := drawn(50).key()
	all := flaws()
	for i := range all {
		for j := i; j < len(all); j++ {
			p := planned(k, 6, nil)
			list := p.packets()
			// The later ones are put in first: they sign anew.
			all[j].apply(&list, &p)
			if i != j {
				all[i].apply(&list, &p)
			}
			b := laid(list)
			refuses(t, b, all[i].want)
			asModelled(t, b)
			refuses(t, append(b, "\xc2\xff\x00\x00\x4e\x21"...), api.ErrLong)
		}
	}
}

// What is wrong with the first signature is told ahead of what is wrong with the second one, and both ahead of another time.
func TestP14_2ParseSignaturesInOrder(t *testing.T) {
	k := drawn(51).key()
	right := planned(k, 6, nil)
	form := func(body []byte) []byte {
		b := slices.Clone(body)
		b[49] = 1
		return b
	}
	later := right
	later.times = [2]uint32{7, 8}
	bodies := func(i int) map[string][]byte {
		body := right.signature(i)
		return map[string][]byte{"right": body, "form": form(body), "sig": broken(body), "time": later.signature(i)}
	}
	errors := map[string]api.Errno{"form": api.ErrForm, "sig": api.ErrSig, "time": api.ErrForm}
	for one, first := range bodies(0) {
		for other, second := range bodies(1) {
			list := right.packets()
			list[1].Body, list[3].Body = first, second
			want := errors[one]
			if one == "right" || one == "time" && (other == "form" || other == "sig") {
				want = errors[other]
			}
			if one == "right" && other == "right" {
				parses(t, laid(list), right.says())
				continue
			}
			refuses(t, laid(list), want)
			asModelled(t, laid(list))
		}
	}
}

// Drawn certificates, in which some bytes are others, are what the model says.
func TestP14_2ParseDrawn(t *testing.T) {
	t.Parallel()
	d := drawn(52)
	seen := map[api.Errno]int{}
	for range 3000 {
		p := planned(d.key(), d.Uint32(), nil)
		p.salts = [2][32]byte{d.array(), d.array()}
		switch d.IntN(8) {
		case 0:
			p.times[d.IntN(2)]++
		case 1:
			p.kinds[d.IntN(2)]++
		case 2:
			p.signers[d.IntN(2)] = d.array()
		case 3:
			p.by[d.IntN(2)] = d.key()
		case 4:
			p.other = d.bytes(42)
		}
		list := p.packets()
		for range d.IntN(3) {
			i := d.IntN(4)
			list[i].Body = slices.Clone(list[i].Body)
			list[i].Body[d.IntN(len(list[i].Body))] ^= byte(1 << d.IntN(8))
		}
		b := laid(list)
		if d.IntN(10) == 0 {
			b = b[:d.IntN(len(b))]
		}
		seen[asModelled(t, b)]++
	}
	if len(seen) != 3 || seen[api.OK] < 200 || seen[api.ErrForm] < 200 || seen[api.ErrSig] < 200 {
		t.Errorf("%v", seen)
	}
}

// Whatever comes in is what the model says.
func FuzzP14_2(f *testing.F) {
	for _, k := range keys(3) {
		f.Add(Make(k, 6, [2][32]byte{{1}, {2}}))
	}
	f.Fuzz(func(t *testing.T, b []byte) {
		asModelled(t, b)
	})
}
