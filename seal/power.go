package seal

import "math/bits"

// times is a times b, mod m; m is not 0. The product may need twice a word's bits.
func times(a, b, m uint64) uint64 {
	high, low := bits.Mul64(a, b)
	return bits.Rem64(high, low, m)
}

// power is base to exponent, mod m; m is greater than 1.
func power(base, exponent, m uint64) uint64 {
	out := uint64(1)
	for ; exponent > 0; exponent >>= 1 {
		if exponent&1 == 1 {
			out = times(out, base, m)
		}
		base = times(base, base, m)
	}
	return out
}
