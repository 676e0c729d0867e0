package field

// raise answers n to the power 2^k: squared k times.
func raise(n number, k int) number {
	for range k {
		n = times(n, n)
	}
	return n
}

// ones answers n to the power 2^250 - 1: 250 bits that are all 1.
func ones(n number) number {
	n2 := times(raise(n, 1), n)
	n4 := times(raise(n2, 2), n2)
	n5 := times(raise(n4, 1), n)
	n10 := times(raise(n5, 5), n5)
	n20 := times(raise(n10, 10), n10)
	n40 := times(raise(n20, 20), n20)
	n50 := times(raise(n40, 10), n10)
	n100 := times(raise(n50, 50), n50)
	n200 := times(raise(n100, 100), n100)
	return times(raise(n200, 50), n50)
}

// inverse answers n to the power p - 2, which is 2^5 (2^250 - 1) + 11: by Fermat, what n times it makes is n to the power p - 1, so 1; or 0, of 0.
func inverse(n number) number {
	n3 := times(raise(n, 1), n)
	n11 := times(raise(n, 3), n3)
	return times(raise(ones(n), 5), n11)
}

// rootOf answers a number whose square is n, and whether there is one.
func rootOf(n number) (number, bool) {
	// To the power (p + 3) / 8, which is 2^2 (2^250 - 1) + 2. Where n is a square, its square is n or 0 less n, as p is 5 modulo 8.
	root := times(raise(ones(n), 2), raise(n, 1))
	if same(raise(root, 1), n) {
		return root, true
	}
	root = times(root, rootOfLess1())
	return root, same(raise(root, 1), n)
}

// rootOfLess1 answers a number whose square is p - 1.
func rootOfLess1() number {
	return number{0xc4ee1b274a0ea0b0, 0x2f431806ad2fe478, 0x2b4d00993dfbd7a7, 0x2b8324804fc1df0b}
}

// same answers whether a and b are one number modulo p.
func same(a, b number) bool {
	return canonical(a) == canonical(b)
}
