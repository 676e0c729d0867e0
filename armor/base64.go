package armor

import (
	"strings"

	"postilion/api"
)

const letters = "ABCDEFGHIJKLMNOPQRSTUVWXYZabcdefghijklmnopqrstuvwxyz"

// signs are base64's: each one's place is the six bits that it means.
const signs = letters + "0123456789+/"

// pad fills the last four signs.
const pad = "="

// Base64 answers the bytes in base64, in one line.
func Base64(b []byte) string {
	var out strings.Builder
	out.Grow((len(b) + 2) / 3 * 4)
	// The lowest left bits are still to be written; what has been goes out at the top in time.
	var bits uint32
	left := 0
	for _, c := range b {
		bits = bits<<8 | uint32(c)
		for left += 8; left >= 6; {
			left -= 6
			out.WriteByte(signs[bits>>left&63])
		}
	}
	if left > 0 {
		out.WriteByte(signs[bits<<(6-left)&63])
	}
	for out.Len()%4 != 0 {
		out.WriteString(pad)
	}
	return out.String()
}

// Unbase64 answers the bytes whose base64 s is; ErrForm, if there are none.
func Unbase64(s string) ([]byte, api.Errno) {
	if len(s)%4 != 0 {
		return nil, api.ErrForm
	}
	b := make([]byte, 0, len(s)/4*3)
	// No more than two: a third one, as any ahead of another sign, is none of the 64.
	s = strings.TrimSuffix(strings.TrimSuffix(s, pad), pad)
	var bits uint32
	left := 0
	for i := range len(s) {
		v := strings.IndexByte(signs, s[i])
		if v < 0 {
			return nil, api.ErrForm
		}
		bits = bits<<6 | uint32(v)
		if left += 6; left >= 8 {
			left -= 8
			b = append(b, byte(bits>>left))
		}
	}
	if bits&(1<<left-1) != 0 {
		return nil, api.ErrForm
	}
	return b, api.OK
}
