package book

import (
	"math/bits"
	"slices"

	"landbridge/api"
	"landbridge/sha"
)

// The first byte of what is summed: what is of one sort is never the bytes of another.
const (
	firstOfPair = 0
	firstOfFork = 1
	firstOfBook = 2
)

// Root answers the digest of the book l.
func Root(l []api.Pair) ([]byte, api.Fault) {
	if f := Wrong(l); f.Err != api.OK {
		return nil, f
	}
	return sha.Sum(BookBytes(len(l), Tree(l))), api.Fault{}
}

// Tree answers the digest of l's pairs, in the order in which they stand: nothing for no pairs.
func Tree(l []api.Pair) []byte {
	switch len(l) {
	case 0:
		return nil
	case 1:
		return sha.Sum(PairBytes(l[0]))
	}
	k := Split(len(l))
	return sha.Sum(ForkBytes(Tree(l[:k]), Tree(l[k:])))
}

// Split answers how many of n pairs stand on the left of their tree: the greatest power of two that is less than n, or 0, if there is none.
func Split(n int) int {
	if n < 2 {
		return 0
	}
	return 1 << (bits.Len(uint(n-1)) - 1)
}

// PairBytes answers what the tree of p alone is the digest of.
func PairBytes(p api.Pair) []byte {
	return slices.Concat([]byte{firstOfPair}, fourBytes(len(p.Key)), p.Key, p.Val)
}

// ForkBytes answers what the tree of two trees is the digest of.
func ForkBytes(left, right []byte) []byte {
	return slices.Concat([]byte{firstOfFork}, left, right)
}

// BookBytes answers what the root of so many pairs is the digest of.
func BookBytes(count int, tree []byte) []byte {
	return slices.Concat([]byte{firstOfBook}, fourBytes(count), tree)
}

func fourBytes(n int) []byte {
	return []byte{byte(n >> 24), byte(n >> 16), byte(n >> 8), byte(n)}
}
