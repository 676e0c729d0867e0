package aes

import (
	"postilion/api"
)

// part is how many bytes go into a step at once, beside as many of A.
const part = 8

// turns is how often each part goes into a step.
const turns = 6

// Wrap answers data wrapped under the key; ErrArg, if the key is none, or data hasn't 16 to 128 bytes, a multiple of eight.
func Wrap(key, data []byte) ([]byte, api.Errno) {
	if !isKey(key) || !mayBeWrapped(len(data)) {
		return nil, api.ErrArg
	}
	keys := roundKeys(key)
	a := start()
	out := make([]byte, part+len(data))
	parts := out[part:]
	copy(parts, data)
	for step := 1; step <= steps(parts); step++ {
		d := partOf(step, parts)
		b := encrypt(keys, both(a, d))
		a = counted([part]byte(b[:part]), step)
		copy(d, b[part:])
	}
	copy(out, a[:])
	return out, api.OK
}

// Unwrap answers the bytes that are wrapped as data; ErrArg, if the key is none, or data hasn't 24 to 136 bytes, a multiple of eight; ErrAuth, if nothing is wrapped as data.
func Unwrap(key, data []byte) ([]byte, api.Errno) {
	if !isKey(key) || !mayBeWrapped(len(data)-part) {
		return nil, api.ErrArg
	}
	keys, back := roundKeys(key), boxBack()
	a := [part]byte(data)
	out := make([]byte, len(data)-part)
	copy(out, data[part:])
	for step := steps(out); step >= 1; step-- {
		d := partOf(step, out)
		b := decrypt(keys, &back, both(counted(a, step), d))
		a = [part]byte(b[:part])
		copy(d, b[part:])
	}
	if a != start() {
		return nil, api.ErrAuth
	}
	return out, api.OK
}

// mayBeWrapped tells whether so many bytes may be wrapped.
func mayBeWrapped(n int) bool {
	return n >= 2*part && n <= 16*part && n%part == 0
}

// start answers what A is ahead of the first step.
func start() [part]byte {
	return [part]byte{166, 166, 166, 166, 166, 166, 166, 166}
}

// steps answers how many steps there are.
func steps(parts []byte) int {
	return turns * (len(parts) / part)
}

// partOf answers the part that goes into a step, as a piece of parts.
func partOf(step int, parts []byte) []byte {
	at := (step - 1) * part % len(parts)
	return parts[at : at+part]
}

// both answers A and a part, one behind the other.
func both(a [part]byte, d []byte) [2 * part]byte {
	var b [2 * part]byte
	copy(b[:], a[:])
	copy(b[part:], d)
	return b
}

// counted answers A with a step's number put in; the last byte holds it: there are at most 96 steps.
func counted(a [part]byte, step int) [part]byte {
	a[part-1] ^= byte(step)
	return a
}
