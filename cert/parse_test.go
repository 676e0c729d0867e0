package cert

import (
	"slices"
	"testing"

	"postilion/api"
	"postilion/packet"
)

// otherForms answers a packet in other forms that layer 11 reads.
func otherForms(p api.Packet) [][]byte {
	n := byte(len(p.Body))
	return [][]byte{
		slices.Concat([]byte{192 | byte(p.Tag), 255, 0, 0, 0, n}, p.Body),
		slices.Concat([]byte{128 | byte(p.Tag)<<2, n}, p.Body),
		slices.Concat([]byte{129 | byte(p.Tag)<<2, 0, n}, p.Body),
		slices.Concat([]byte{130 | byte(p.Tag)<<2, 0, 0, 0, n}, p.Body),
	}
}

func TestP14_2Parse(t *testing.T) {
	for _, k := range keys(8) {
		for _, time := range times() {
			parses(t, modelledCert(k, time, [2][32]byte{{byte(time)}, full()}).bytes(), modelledOf(k, time))
		}
	}
}

// It says what its packets do, in whatever form layer 11 reads them.
func TestP14_2ParseForms(t *testing.T) {
	p := planned(drawn(20).key(), 6, nil)
	list := p.packets()
	for i := range list {
		for _, form := range otherForms(list[i]) {
			parses(t, slices.Concat(laid(list[:i]), form, laid(list[i+1:])), p.says())
		}
	}
	toEnd := slices.Concat(laid(list[:3]), []byte{131 | 2<<2}, list[3].Body)
	parses(t, toEnd, p.says())
}

// Bytes that are no packets: layer 11's error, whatever they are else.
func TestP14_2ParseNoPackets(t *testing.T) {
	p := planned(drawn(21).key(), 6, nil)
	b := p.bytes()
	const long = "\xc2\xff\x00\x00\x4e\x21"
	for s, want := range map[string]api.Errno{
		"\x00": api.ErrForm, "\xc6": api.ErrForm, "text": api.ErrForm, "\xc0\x00": api.ErrForm,
		long: api.ErrLong, string(b) + long: api.ErrLong, long + string(b): api.ErrLong,
		string(b) + "\x00": api.ErrForm, string(b) + "\xc2\x01": api.ErrForm, string(b) + "\x00" + long: api.ErrForm,
		string(b[:44]) + long: api.ErrLong, "\xc1\x00" + long: api.ErrLong,
		string(b[:44]) + "\x8a\x00\x00\x4e\x21" + string(b[44:]): api.ErrLong,
	} {
		if _, e := packet.Parse([]byte(s)); e != want {
			t.Fatalf("layer 11: %v, not %v", e, want)
		}
		refuses(t, []byte(s), want)
	}
	// What is wrong with a packet's length is told ahead of what is wrong with a key or a signature.
	list := p.packets()
	list[1].Body = broken(list[1].Body)
	refuses(t, laid(list), api.ErrSig)
	refuses(t, append(laid(list), long...), api.ErrLong)
	refuses(t, append(laid(list), 0), api.ErrForm)
}

// Cut off at each place, also where the packets are whole.
func TestP14_2ParseCutOff(t *testing.T) {
	t.Parallel()
	b := planned(drawn(22).key(), 6, nil).bytes()
	for n := range b {
		refuses(t, b[:n], api.ErrForm)
		// What is left behind the beginning is packets or not, as it happens.
		if e := asModelled(t, b[n:]); n > 0 && e == api.OK {
			t.Errorf("without its first %d bytes it is one", n)
		}
	}
	refuses(t, nil, api.ErrForm)
	refuses(t, []byte{}, api.ErrForm)
}

// No packet, fewer than four, and more: of whatever kind, wherever.
func TestP14_2ParseHowMany(t *testing.T) {
	p := planned(drawn(23).key(), 6, nil)
	list := p.packets()
	for i := range list {
		refuses(t, laid(list[:i]), api.ErrForm)
		refuses(t, laid(list[i+1:]), api.ErrForm)
		refuses(t, laid(slices.Concat(list[:i], list[i+1:])), api.ErrForm)
	}
	more := slices.Concat(list, []api.Packet{{Tag: 1}, {Tag: 63}, {Tag: 13, Body: []byte("a name")}, {Tag: 2}, {Tag: 10, Body: []byte("PGP")}})
	for i := range len(list) + 1 {
		for _, one := range more {
			refuses(t, laid(slices.Concat(list[:i], []api.Packet{one}, list[i:])), api.ErrForm)
		}
	}
	refuses(t, append(p.bytes(), p.bytes()...), api.ErrForm)
	refuses(t, laid(slices.Concat(list[:2], list[2:], list[2:])), api.ErrForm)
}

// Each tag at each place.
func TestP14_2ParseTags(t *testing.T) {
	p := planned(drawn(24).key(), 6, nil)
	for i := range 4 {
		for tag := 1; tag <= 63; tag++ {
			list := p.packets()
			if list[i].Tag == tag {
				parses(t, laid(list), p.says())
				continue
			}
			list[i].Tag = tag
			refuses(t, laid(list), api.ErrForm)
		}
	}
}

// The four packets in each other order.
func TestP14_2ParseOrders(t *testing.T) {
	p := planned(drawn(25).key(), 6, nil)
	list := p.packets()
	tried := 0
	for a := range 256 {
		i, j, k, l := a&3, a>>2&3, a>>4&3, a>>6
		b := laid([]api.Packet{list[i], list[j], list[k], list[l]})
		if i == 0 && j == 1 && k == 2 && l == 3 {
			parses(t, b, p.says())
			continue
		}
		// The first signature twice is of the right tags, as the second one twice is: what is wrong is its type.
		refuses(t, b, api.ErrForm)
		tried++
	}
	if tried != 255 {
		t.Errorf("%d orders", tried)
	}
}

// Keys of each other algorithm, with signatures that fit.
func TestP14_2ParseAlgorithms(t *testing.T) {
	k := drawn(26).key()
	for algorithm := range 256 {
		for i, right := range []int{27, 25} {
			p := planned(k, 6, func(first, other []byte) ([]byte, []byte) {
				[][]byte{first, other}[i][5] = byte(algorithm)
				return first, other
			})
			if algorithm == right {
				parses(t, p.bytes(), p.says())
			} else {
				refuses(t, p.bytes(), api.ErrForm)
			}
		}
	}
	turned := planned(k, 6, func(first, other []byte) ([]byte, []byte) {
		first[5], other[5] = 25, 27
		return first, other
	})
	refuses(t, turned.bytes(), api.ErrForm)
}

// Each byte of both keys another one, with signatures that fit: those of the version, the algorithm and the size are of form; with another second public key it is another certificate.
func TestP14_2ParseKeyBytes(t *testing.T) {
	k := drawn(27).key()
	for at := range 42 {
		for _, d := range []byte{1, 2, 32, 128, 255} {
			p := planned(k, 6, func(first, other []byte) ([]byte, []byte) {
				other[at] ^= d
				return first, other
			})
			if at >= 10 {
				parses(t, p.bytes(), p.says())
			} else {
				refuses(t, p.bytes(), api.ErrForm)
			}
			p = planned(k, 6, func(first, other []byte) ([]byte, []byte) {
				first[at] ^= d
				return first, other
			})
			if at >= 10 {
				refuses(t, p.bytes(), api.ErrSig)
			} else {
				refuses(t, p.bytes(), api.ErrForm)
			}
			if at >= 1 && at < 5 {
				p = planned(k, 6, func(first, other []byte) ([]byte, []byte) {
					first[at] ^= d
					other[at] ^= d
					return first, other
				})
				p.times = [2]uint32{number(p.first[1:]), number(p.first[1:])}
				parses(t, p.bytes(), p.says())
			}
		}
	}
}

// Keys of each other number of bytes, with signatures that fit.
func TestP14_2ParseKeySizes(t *testing.T) {
	k := drawn(28).key()
	for n := range 90 {
		if n == 42 {
			continue
		}
		sized := func(b []byte) []byte {
			return append(slices.Clone(b), filled(48)...)[:n]
		}
		p := planned(k, 6, func(first, other []byte) ([]byte, []byte) { return sized(first), other })
		refuses(t, p.bytes(), api.ErrForm)
		p = planned(k, 6, func(first, other []byte) ([]byte, []byte) { return first, sized(other) })
		refuses(t, p.bytes(), api.ErrForm)
		// Also where the size is said in the key.
		if n >= 10 {
			p = planned(k, 6, func(first, other []byte) ([]byte, []byte) {
				first, other = sized(first), sized(other)
				first[9], other[9] = byte(n-10), byte(n-10)
				return first, other
			})
			refuses(t, p.bytes(), api.ErrForm)
		}
	}
}

// A second key that nothing can be sealed for is one all the same: no more is asked of it.
func TestP14_2ParseBoxes(t *testing.T) {
	k := drawn(29).key()
	for _, box := range [][32]byte{{}, {1}, full(), {9}, [32]byte(modelledSign(k))} {
		p := planned(k, 6, func(first, other []byte) ([]byte, []byte) {
			return first, slices.Concat(other[:10], box[:])
		})
		parses(t, p.bytes(), p.says())
	}
}

// A first key under which no signature is verified.
func TestP14_2ParseSigns(t *testing.T) {
	k := drawn(30).key()
	for _, sign := range [][32]byte{{}, {1}, {2}, full(), modelledSign(drawn(31).key()), modelledBox(k)} {
		p := planned(k, 6, func(first, other []byte) ([]byte, []byte) {
			return slices.Concat(first[:10], sign[:]), other
		})
		refuses(t, p.bytes(), api.ErrSig)
	}
}

// Keys of two times, with signatures of one or the other.
func TestP14_2ParseKeyTimes(t *testing.T) {
	k := drawn(32).key()
	for _, other := range []uint32{0, 5, 7, 6 << 8, 6 << 24, 4294967295} {
		p := planned(k, 6, func(first, _ []byte) ([]byte, []byte) {
			return first, modelledKey(other, 25, modelledBox(k))
		})
		for _, p.times = range [][2]uint32{{6, 6}, {6, other}, {other, 6}, {other, other}} {
			refuses(t, p.bytes(), api.ErrForm)
		}
	}
}

// Signatures that are right, but of another time.
func TestP14_2ParseSignatureTimes(t *testing.T) {
	k := drawn(33).key()
	for _, other := range []uint32{0, 5, 7, 6 << 8, 6 << 24, 4294967295} {
		p := planned(k, 6, nil)
		parses(t, p.bytes(), p.says())
		for _, p.times = range [][2]uint32{{6, other}, {other, 6}, {other, other}, {other, other + 1}} {
			refuses(t, p.bytes(), api.ErrForm)
		}
	}
}

// Signatures of other types, turned, or one of them twice.
func TestP14_2ParseKinds(t *testing.T) {
	t.Parallel()
	k := drawn(34).key()
	p := planned(k, 6, nil)
	for kind := range 256 {
		for i, right := range []int{31, 24} {
			p.kinds = [2]byte{31, 24}
			p.kinds[i] = byte(kind)
			if kind == right {
				parses(t, p.bytes(), p.says())
			} else {
				refuses(t, p.bytes(), api.ErrForm)
			}
		}
	}
	list := planned(k, 6, nil).packets()
	list[1], list[3] = list[3], list[1]
	refuses(t, laid(list), api.ErrForm)
	p = planned(k, 6, nil)
	p.whats[0], p.whats[1] = p.whats[1], p.whats[0]
	refuses(t, p.bytes(), api.ErrSig)
}

// Signatures by another signer: its fingerprint, its key, or both.
func TestP14_2ParseSigners(t *testing.T) {
	k, stranger := drawn(35).key(), drawn(36).key()
	mine, theirs := modelledOf(k, 6).Prints, modelledOf(stranger, 6).Prints
	for i := range 2 {
		for _, signer := range [][32]byte{mine[1], theirs[0], {}, modelledOf(k, 7).Prints[0]} {
			p := planned(k, 6, nil)
			p.signers[i] = signer
			refuses(t, p.bytes(), api.ErrForm)
			p.by[i] = stranger
			refuses(t, p.bytes(), api.ErrForm)
		}
		for _, by := range []api.Key{stranger, {}, {Sign: k.Box, Box: k.Sign}} {
			p := planned(k, 6, nil)
			p.by[i] = by
			refuses(t, p.bytes(), api.ErrSig)
		}
	}
}

// Signatures that are of other bytes.
func TestP14_2ParseWhats(t *testing.T) {
	k := drawn(37).key()
	right := planned(k, 6, nil)
	first, second := modelledForm(right.first), modelledForm(right.other)
	foreign := planned(drawn(38).key(), 6, nil)
	for _, what := range [][]byte{nil, right.first, second, right.whats[1], foreign.whats[0], first[1:], append(slices.Clone(first), 0)} {
		p := right
		p.whats[0] = what
		refuses(t, p.bytes(), api.ErrSig)
	}
	for _, what := range [][]byte{nil, first, second, slices.Concat(second, first), slices.Concat(right.first, right.other), foreign.whats[1], slices.Concat(first, first), slices.Concat(right.whats[1], second)} {
		p := right
		p.whats[1] = what
		refuses(t, p.bytes(), api.ErrSig)
	}
}

// Packets of two certificates, changed over: of another key, and of the same one at another time.
func TestP14_2ParseChangedOver(t *testing.T) {
	k, other := drawn(39).key(), drawn(40).key()
	mine, theirs, later := planned(k, 6, nil).packets(), planned(other, 6, nil).packets(), planned(k, 7, nil).packets()
	for i, want := range []struct{ foreign, later api.Errno }{
		{api.ErrForm, api.ErrForm}, {api.ErrForm, api.ErrForm}, {api.ErrSig, api.ErrForm}, {api.ErrForm, api.ErrForm},
	} {
		list := slices.Clone(mine)
		list[i] = theirs[i]
		refuses(t, laid(list), want.foreign)
		list[i] = later[i]
		refuses(t, laid(list), want.later)
	}
	// Another certificate of the same key and time: its signatures have other salts, and are as good.
	again := planned(k, 6, nil)
	again.salts = [2][32]byte{{8}, {9}}
	for _, i := range []int{1, 3} {
		list := slices.Clone(mine)
		list[i] = again.packets()[i]
		parses(t, laid(list), modelledOf(k, 6))
	}
}

// Each byte of a certificate another one.
func TestP14_2ParseEachByte(t *testing.T) {
	t.Parallel()
	b := planned(drawn(41).key(), 6, nil).bytes()
	for i := range b {
		for bit := range 8 {
			other := slices.Clone(b)
			other[i] ^= 1 << bit
			if c, e := Parse(other); e == api.OK || c != (Cert{}) {
				t.Errorf("bit %d of byte %d: %x, %v", bit, i, c, e)
			}
		}
	}
}
