// Package sha has SHA-256: see doc/01-sha.md.
package sha

// Sum answers the SHA-256 of b.
func Sum(b []byte) []byte {
	d := begin()
	d.take(b)
	return d.finish()
}

// Parts answers the SHA-256 of all of l's bytes, one part behind the other.
func Parts(l [][]byte) []byte {
	d := begin()
	for _, part := range l {
		d.take(part)
	}
	return d.finish()
}
