package xdh

import (
	"encoding/hex"
	"testing"

	"postilion/api"
)

func unhex(t *testing.T, s string) [32]byte {
	t.Helper()
	b, err := hex.DecodeString(s)
	if err != nil || len(b) != 32 {
		t.Fatalf("%s: %v", s, err)
	}
	return [32]byte(b)
}

// RFC 7748, section 5.2; the first one is the chapter's example. The second one's u has the highest bit.
func TestP8_1Known(t *testing.T) {
	for _, c := range [][3]string{
		{"a546e36bf0527c9d3b16154b82465edd62144c0ac1fc5a18506a2244ba449ac4",
			"e6db6867583030db3594c1a424b15f7c726624ec26b3353b10a903a6d0ab1c4c",
			"c3da55379de9c6908e94ea4df28d084f32eccf03491c71f754b4075577a28552"},
		{"4b66e9d4d1b4673c5ad22691957d6af5c11b6421e0ea01d42ca4169e7918ba0d",
			"e5210f12786811d3f4b7959d0538ae2c31dbe7106fc03c3efc4cd549c715a493",
			"95cbde9476e8907d7aade45cb4b873f88b595a68799fa152e6f8f7647aac7957"},
	} {
		check(t, unhex(t, c[0]), unhex(t, c[1]), unhex(t, c[2]))
	}
}

// The same section: each product is the next secret, and the secret the next u.
func TestP8_1Repeated(t *testing.T) {
	secret, u := small(9), small(9)
	for i := 1; i <= 1000; i++ {
		secret, u = Mul(secret, u), secret
		if i == 1 && secret != unhex(t, "422c8e7a6227d7bca1350b3e2bb7279f7897b87bb6854b783c60e80311ae3079") {
			t.Errorf("once: %x", secret)
		}
	}
	if secret != unhex(t, "684cf59ba83309552800ef566f2f4d3c1c3887c49360e3875f2eb94d99532c51") {
		t.Errorf("1000 times: %x", secret)
	}
}

// Section 6.1: two who share a secret.
func TestP8_2Known(t *testing.T) {
	a := unhex(t, "77076d0a7318a57d3c16c17251b26645df4c2f87ebc0992ab177fba51db92c2a")
	b := unhex(t, "5dab087e624a8a4b79e17f8b83800ee66f3bb1292618b6fd1c2f8b27ff88e0eb")
	publicA := unhex(t, "8520f0098930a754748b7ddcb43ef75a0dbf3a0d26381af4eba4a98eaa9b4e6a")
	publicB := unhex(t, "de9edb7d7b7dc1b4d35b61c2ece435373f8343c85b78674dadfc7e146f882b4f")
	want := unhex(t, "4a5d9d5ba4ce2de1728e3bf480350f25e07e21c947d19e3376f09b3c1e161742")
	if Public(a) != publicA || Public(b) != publicB {
		t.Errorf("Public: %x, %x", Public(a), Public(b))
	}
	if got, e := Shared(a, publicB); got != want || e != api.OK {
		t.Errorf("a's: %x, %v", got, e)
	}
	if got, e := Shared(b, publicA); got != want || e != api.OK {
		t.Errorf("b's: %x, %v", got, e)
	}
}
