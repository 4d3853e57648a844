package sha

import "landbridge/api"

const (
	blockSize = 64
	sizeAt    = blockSize - 8 // where the last block tells how many bits there were
)

// digest is a sum in the making. Bytes are taken as they come, so that neither
// a long argument nor many parts are copied into one list first.
type digest struct {
	words [8]uint32
	rest  [blockSize]byte // what doesn't fill a block yet
	held  int             // how much of rest that is: always less than a block between calls
	size  uint64
}

// begin has the first 32 bits behind the point of the square roots of the first eight primes.
func begin() digest {
	return digest{words: [8]uint32{
		0x6a09e667, 0xbb67ae85, 0x3c6ef372, 0xa54ff53a,
		0x510e527f, 0x9b05688c, 0x1f83d9ab, 0x5be0cd19,
	}}
}

func (s *digest) take(b []byte) {
	s.size += uint64(len(b))
	if s.held > 0 {
		n := copy(s.rest[s.held:], b)
		s.held += n
		b = b[n:]
		if s.held < blockSize {
			return
		}
		s.mix(s.rest[:])
	}
	for len(b) >= blockSize {
		s.mix(b[:blockSize])
		b = b[blockSize:]
	}
	s.held = copy(s.rest[:], b)
}

func (s *digest) finish() []byte {
	s.rest[s.held] = 0x80
	clear(s.rest[s.held+1:])
	if s.held >= sizeAt {
		// The mark stands where the size would: that goes into a block of its own.
		s.mix(s.rest[:])
		clear(s.rest[:])
	}
	s.putSize()
	s.mix(s.rest[:])
	return s.bytes()
}

func (s *digest) putSize() {
	bitCount := s.size * 8
	for i := blockSize - 1; i >= sizeAt; i-- {
		s.rest[i] = byte(bitCount)
		bitCount >>= 8
	}
}

func (s *digest) bytes() []byte {
	out := make([]byte, 0, api.Digest)
	for _, w := range s.words {
		out = append(out, byte(w>>24), byte(w>>16), byte(w>>8), byte(w))
	}
	return out
}
