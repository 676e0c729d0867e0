package armor

// CRC24 of RFC 9580: what it begins with, and what is put in for a bit that fell out, that bit among it.
const (
	sumStart = 0xb704ce
	sumOut   = 1 << 24
	sumPut   = sumOut | 0x864cfb
)

// Sum answers CRC24 of the bytes.
func Sum(b []byte) uint32 {
	sum := uint32(sumStart)
	for _, c := range b {
		sum ^= uint32(c) << 16
		for range 8 {
			sum <<= 1
			if sum&sumOut != 0 {
				sum ^= sumPut
			}
		}
	}
	return sum
}

// sumLine answers the line with the bytes' sum.
func sumLine(b []byte) string {
	sum := Sum(b)
	return pad + Base64([]byte{byte(sum >> 16), byte(sum >> 8), byte(sum)})
}
