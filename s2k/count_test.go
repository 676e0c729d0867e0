package s2k

import (
	"testing"

	"postilion/api"
)

func TestP13_1CountKnown(t *testing.T) {
	for code, want := range map[byte]int{
		0: 1024, 96: 65536, // the chapter's examples
		1: 1088, 2: 1152, 15: 1984, 16: 2048, 17: 2176, 31: 3968, 32: 4096, 95: 63488, 97: 69632,
		111: 126976, 112: 131072, 113: 139264, 127: 253952, 128: 262144, 240: 33554432, 254: 62914560, 255: 65011712,
	} {
		if n := Count(code); n != want {
			t.Errorf("%d: %d, not %d", code, n, want)
		}
	}
}

func TestP13_1CountEachCode(t *testing.T) {
	last, allowed := 0, 0
	for code := range 256 {
		n := Count(byte(code))
		if n != counted(byte(code)) {
			t.Errorf("%d: %d, not %d", code, n, counted(byte(code)))
		}
		if n <= last {
			t.Errorf("%d: %d, behind %d", code, n, last)
		}
		if last = n; n <= api.MaxCount {
			allowed++
		}
	}
	if allowed != 113 {
		t.Errorf("%d counts aren't above MaxCount", allowed)
	}
}
