package cert

import (
	"slices"

	"postilion/api"
	"postilion/packet"
)

// A plan is what a certificate is made of, so that each piece of it can be another one and all else still fit: what is changed is signed.
type plan struct {
	k            api.Key
	first, other []byte // the bodies of the keys
	kinds        [2]byte
	times        [2]uint32
	salts        [2][32]byte
	signers      [2][32]byte
	whats        [2][]byte
	by           [2]api.Key
}

// planned answers the plan of a certificate of k that is right, behind a change of its keys' bodies.
func planned(k api.Key, time uint32, change func(first, other []byte) ([]byte, []byte)) plan {
	p := plan{k: k, first: modelledKey(time, 27, modelledSign(k)), other: modelledKey(time, 25, modelledBox(k))}
	if change != nil {
		p.first, p.other = change(p.first, p.other)
	}
	signer := modelledPrint(p.first)
	p.kinds, p.times, p.salts = [2]byte{31, 24}, [2]uint32{time, time}, [2][32]byte{{1}, {2}}
	p.signers, p.by = [2][32]byte{signer, signer}, [2]api.Key{k, k}
	p.whats = [2][]byte{modelledForm(p.first), slices.Concat(modelledForm(p.first), modelledForm(p.other))}
	return p
}

// signature is the body of one of both.
func (p plan) signature(i int) []byte {
	return modelledSignature(p.by[i], p.kinds[i], p.times[i], p.salts[i], p.signers[i], p.whats[i]).body()
}

// packets are the four of it.
func (p plan) packets() []api.Packet {
	return []api.Packet{{Tag: 6, Body: p.first}, {Tag: 2, Body: p.signature(0)}, {Tag: 14, Body: p.other}, {Tag: 2, Body: p.signature(1)}}
}

func (p plan) bytes() []byte {
	return laid(p.packets())
}

// says is what the certificate says, if it is right.
func (p plan) says() Cert {
	return Cert{
		Time: number(p.first[1:]), Sign: [32]byte(p.first[10:]), Box: [32]byte(p.other[10:]),
		Prints: [2][32]byte{modelledPrint(p.first), modelledPrint(p.other)},
	}
}

// laid is packets one behind the other.
func laid(list []api.Packet) []byte {
	b, e := packet.Write(list)
	if e != api.OK {
		panic(e)
	}
	return b
}

// broken is a body of which the last byte is another one: of a signature, that is ErrSig.
func broken(body []byte) []byte {
	b := slices.Clone(body)
	b[len(b)-1] ^= 1
	return b
}
