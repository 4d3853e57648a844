package wire

const (
	more     = 0x80 // the bit that tells that another byte follows
	lowSeven = 0x7f
	lastByte = 9 // where a number's tenth byte stands: nine bytes have 63 bits
)

func appendNumber(out []byte, n uint64) []byte {
	for n > lowSeven {
		out = append(out, byte(n&lowSeven)|more)
		n >>= 7
	}
	return append(out, byte(n))
}

// cutNumber answers the number that b begins with, and what is behind it.
func cutNumber(b []byte) (uint64, []byte, bool) {
	var n uint64
	for i, x := range b {
		// Only one bit of 64 is left for the tenth byte, and none for another one.
		if i == lastByte && x > 1 {
			return 0, nil, false
		}
		n |= uint64(x&lowSeven) << (7 * i)
		if x >= more {
			continue
		}
		// A last byte without bits could be left out: it isn't how the number is written.
		if x == 0 && i > 0 {
			return 0, nil, false
		}
		return n, b[i+1:], true
	}
	return 0, nil, false
}
