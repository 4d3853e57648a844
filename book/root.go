package book

import (
	"math/bits"
	"slices"

	"landbridge/api"
	"landbridge/sha"
)

// The first byte of what is summed: what is of one sort is never the bytes of another.
const (
	firstOfPair = 0
	firstOfFork = 1
	firstOfBook = 2
)

// Root answers the digest of the book l.
func Root(l []api.Pair) ([]byte, api.Fault) {
	if f := Wrong(l); f.Err != api.OK {
		return nil, f
	}
	return sha.Sum(bookBytes(len(l), tree(l))), api.Fault{}
}

// tree answers nothing for no pairs.
func tree(l []api.Pair) []byte {
	switch len(l) {
	case 0:
		return nil
	case 1:
		return sha.Sum(pairBytes(l[0]))
	}
	k := split(len(l))
	return sha.Sum(forkBytes(tree(l[:k]), tree(l[k:])))
}

// split answers the greatest power of two that is less than n, for n from 2 on.
func split(n int) int {
	return 1 << (bits.Len(uint(n-1)) - 1)
}

func pairBytes(p api.Pair) []byte {
	return slices.Concat([]byte{firstOfPair}, fourBytes(len(p.Key)), p.Key, p.Val)
}

func forkBytes(left, right []byte) []byte {
	return slices.Concat([]byte{firstOfFork}, left, right)
}

func bookBytes(count int, tree []byte) []byte {
	return slices.Concat([]byte{firstOfBook}, fourBytes(count), tree)
}

func fourBytes(n int) []byte {
	return []byte{byte(n >> 24), byte(n >> 16), byte(n >> 8), byte(n)}
}
