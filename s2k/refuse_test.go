package s2k

import (
	"math"
	"slices"
	"testing"

	"postilion/api"
)

// wrongSpecs are specifiers that are refused, each with what is told.
func wrongSpecs() map[string]api.Errno {
	return map[string]api.Errno{
		"":                             api.ErrForm,
		"\x03":                         api.ErrForm,
		"\x03\x08":                     api.ErrForm,
		"\x03\x08saltsal":              api.ErrForm,
		"\x03\x08saltsalt":             api.ErrForm,
		"\x00":                         api.ErrKind,
		"\x08":                         api.ErrKind,
		"\x04":                         api.ErrKind,
		"\x03\x02":                     api.ErrKind,
		"\x08\x03":                     api.ErrKind,
		"\x01\x08saltsalt":             api.ErrKind,
		"\x03\x0asaltsal":              api.ErrKind,
		"\x00\x08saltsalt\x00":         api.ErrKind,
		"\x03\x09saltsalt\x00":         api.ErrKind,
		"\x03\x0asaltsalt\xff":         api.ErrKind,
		"\x01\x08saltsalt\xff":         api.ErrKind,
		"\x04\x08saltsalt\x00more":     api.ErrKind,
		"\x03\x08saltsalt\x71":         api.ErrLong,
		"\x03\x08saltsalt\x80":         api.ErrLong,
		"\x03\x08saltsalt\xff":         api.ErrLong,
		"\x03\x08saltsalt\xff\x00more": api.ErrLong,
	}
}

func TestP13_1DeriveRefusesSpecs(t *testing.T) {
	for spec, want := range wrongSpecs() {
		for _, pass := range []int{0, 1, 500, 1000} {
			for _, n := range []int{1, 31, 32, 33, 64} {
				refuses(t, []byte(spec), filled(pass), n, want)
			}
		}
	}
	refuses(t, nil, nil, 32, api.ErrForm)
	refuses(t, []byte{}, []byte{}, 32, api.ErrForm)
}

// A number of bytes of the key, or of the passphrase, that may not be, is told ahead of all else.
func TestP13_1DeriveRefusesArguments(t *testing.T) {
	good := string(specifier(salt, 0))
	specs := []string{good, good + "more"}
	for spec := range wrongSpecs() {
		specs = append(specs, spec)
	}
	for _, spec := range specs {
		for _, n := range []int{math.MinInt, math.MinInt32, -64, -1, 0, 65, 66, 96, 128, 1 << 16, math.MaxInt32, math.MaxInt} {
			for _, pass := range []int{0, 1, 1000, 1001} {
				refuses(t, []byte(spec), filled(pass), n, api.ErrArg)
			}
		}
		for _, pass := range []int{1001, 1002, 1024, 2000, 1 << 17} {
			for _, n := range []int{1, 32, 64} {
				refuses(t, []byte(spec), filled(pass), n, api.ErrArg)
			}
		}
	}
}

// Each first byte, alone, with a second one, and in a specifier that is whole.
func TestP13_1DeriveFirstByte(t *testing.T) {
	for c := range 256 {
		first := []byte{byte(c)}
		alone, whole, long := api.ErrKind, api.ErrKind, api.ErrKind
		if c == 3 {
			alone, whole, long = api.ErrForm, api.OK, api.ErrLong
		}
		refuses(t, first, nil, 32, alone)
		refuses(t, append(first, 8), nil, 32, alone)
		refuses(t, append(first, 9), nil, 32, api.ErrKind)
		refuses(t, append(first, 3), nil, 32, api.ErrKind)
		refuses(t, slices.Concat(first, specifier(salt, 113)[1:]), nil, 32, long)
		spec := slices.Concat(first, specifier(salt, 0)[1:])
		if whole == api.OK {
			derives(t, spec, nil, 32)
		} else {
			refuses(t, spec, nil, 32, whole)
		}
	}
}

// Each second byte, behind the first one alone, in a specifier that lacks its last byte, and in whole ones.
func TestP13_1DeriveSecondByte(t *testing.T) {
	for c := range 256 {
		spec := specifier(salt, 0)
		spec[1] = byte(c)
		tooMuch := append(slices.Clone(spec[:10]), 113)
		if c == 8 {
			refuses(t, spec[:2], nil, 32, api.ErrForm)
			refuses(t, spec[:10], nil, 32, api.ErrForm)
			refuses(t, tooMuch, nil, 32, api.ErrLong)
			derives(t, spec, nil, 32)
			continue
		}
		refuses(t, spec[:2], nil, 32, api.ErrKind)
		refuses(t, spec[:10], nil, 32, api.ErrKind)
		refuses(t, tooMuch, nil, 32, api.ErrKind)
		refuses(t, spec, nil, 32, api.ErrKind)
	}
}

// A specifier of each number of bytes; what is behind its eleven is none of it, whatever that is.
func TestP13_1DeriveSpecSizes(t *testing.T) {
	pass := []byte("pass")
	want := derives(t, specifier(salt, 9), pass, 64)
	for _, fill := range []byte{0, 3, 8, 112, 255} {
		spec := append(specifier(salt, 9), slices.Repeat([]byte{fill}, 2000)...)
		for n := range len(spec) + 1 {
			if n < 11 {
				refuses(t, spec[:n], pass, 64, api.ErrForm)
				continue
			}
			if n > 40 && n%97 != 0 {
				continue
			}
			if key := derives(t, spec[:n], pass, 64); !slices.Equal(key, want) {
				t.Errorf("of %d bytes: %x, not %x", n, key, want)
			}
		}
	}
	// Two specifiers, one behind the other: the first one alone is read.
	two := slices.Concat(specifier(salt, 9), specifier("othersal", 255))
	if key := derives(t, two, pass, 64); !slices.Equal(key, want) {
		t.Errorf("of two: %x, not %x", key, want)
	}
	refuses(t, slices.Concat(specifier(salt, 255), specifier(salt, 9)), pass, 64, api.ErrLong)
}
