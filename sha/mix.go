package sha

import "math/bits"

const rounds = 64

// cubes has the first 32 bits behind the point of the cube roots of the first 64 primes.
var cubes = [rounds]uint32{
	0x428a2f98, 0x71374491, 0xb5c0fbcf, 0xe9b5dba5, 0x3956c25b, 0x59f111f1, 0x923f82a4, 0xab1c5ed5,
	0xd807aa98, 0x12835b01, 0x243185be, 0x550c7dc3, 0x72be5d74, 0x80deb1fe, 0x9bdc06a7, 0xc19bf174,
	0xe49b69c1, 0xefbe4786, 0x0fc19dc6, 0x240ca1cc, 0x2de92c6f, 0x4a7484aa, 0x5cb0a9dc, 0x76f988da,
	0x983e5152, 0xa831c66d, 0xb00327c8, 0xbf597fc7, 0xc6e00bf3, 0xd5a79147, 0x06ca6351, 0x14292967,
	0x27b70a85, 0x2e1b2138, 0x4d2c6dfc, 0x53380d13, 0x650a7354, 0x766a0abb, 0x81c2c92e, 0x92722c85,
	0xa2bfe8a1, 0xa81a664b, 0xc24b8b70, 0xc76c51a3, 0xd192e819, 0xd6990624, 0xf40e3585, 0x106aa070,
	0x19a4c116, 0x1e376c08, 0x2748774c, 0x34b0bcb5, 0x391c0cb3, 0x4ed8aa4a, 0x5b9cca4f, 0x682e6ff3,
	0x748f82ee, 0x78a5636f, 0x84c87814, 0x8cc70208, 0x90befffa, 0xa4506ceb, 0xbef9a3f7, 0xc67178f2,
}

// mix works one block into the words; block has blockSize bytes.
func (s *digest) mix(block []byte) {
	w := spread(block)
	a, b, c, d := s.words[0], s.words[1], s.words[2], s.words[3]
	e, f, g, h := s.words[4], s.words[5], s.words[6], s.words[7]
	for t := range rounds {
		t1 := h + bigSigma1(e) + choose(e, f, g) + cubes[t] + w[t]
		t2 := bigSigma0(a) + majority(a, b, c)
		h, g, f, e, d, c, b, a = g, f, e, d+t1, c, b, a, t1+t2
	}
	for i, letter := range [8]uint32{a, b, c, d, e, f, g, h} {
		s.words[i] += letter
	}
}

// spread makes a word for each round of a block's sixteen.
func spread(block []byte) [rounds]uint32 {
	var w [rounds]uint32
	for t := range 16 {
		at := 4 * t
		w[t] = uint32(block[at])<<24 | uint32(block[at+1])<<16 | uint32(block[at+2])<<8 | uint32(block[at+3])
	}
	for t := 16; t < rounds; t++ {
		w[t] = smallSigma1(w[t-2]) + w[t-7] + smallSigma0(w[t-15]) + w[t-16]
	}
	return w
}

func choose(e, f, g uint32) uint32 { return e&f ^ ^e&g }

func majority(a, b, c uint32) uint32 { return a&b ^ a&c ^ b&c }

func smallSigma0(x uint32) uint32 { return right(x, 7) ^ right(x, 18) ^ x>>3 }

func smallSigma1(x uint32) uint32 { return right(x, 17) ^ right(x, 19) ^ x>>10 }

func bigSigma0(x uint32) uint32 { return right(x, 2) ^ right(x, 13) ^ right(x, 22) }

func bigSigma1(x uint32) uint32 { return right(x, 6) ^ right(x, 11) ^ right(x, 25) }

// right turns: the library turns left alone.
func right(x uint32, n int) uint32 { return bits.RotateLeft32(x, -n) }
