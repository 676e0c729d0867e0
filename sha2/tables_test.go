package sha2

import (
	"math/big"
	"testing"
)

// primes answers the first n primes.
func primes(n int) []int64 {
	var out []int64
	for k := int64(2); len(out) < n; k++ {
		if big.NewInt(k).ProbablyPrime(10) {
			out = append(out, k)
		}
	}
	return out
}

// rootBits answers the first 64 bits of the fraction of p's root of the power 2 or 3.
func rootBits(p int64, power int) uint64 {
	want := new(big.Int).Lsh(big.NewInt(p), uint(64*power))
	root := new(big.Int)
	for bit := 80; bit >= 0; bit-- {
		root.SetBit(root, bit, 1)
		if new(big.Int).Exp(root, big.NewInt(int64(power)), nil).Cmp(want) > 0 {
			root.SetBit(root, bit, 0)
		}
	}
	return new(big.Int).And(root, new(big.Int).SetUint64(1<<64-1)).Uint64()
}

func TestP1_1Constants(t *testing.T) {
	for i, p := range primes(80) {
		cube, square := rootBits(p, 3), rootBits(p, 2)
		if rounds512[i] != cube {
			t.Errorf("rounds512[%d]: %x, not %x", i, rounds512[i], cube)
		}
		if i < len(rounds256) && rounds256[i] != uint32(cube>>32) {
			t.Errorf("rounds256[%d]: %x, not %x", i, rounds256[i], cube>>32)
		}
		if i < 8 && (start512[i] != square || start256[i] != uint32(square>>32)) {
			t.Errorf("start[%d]: %x and %x, not of %x", i, start512[i], start256[i], square)
		}
	}
}
