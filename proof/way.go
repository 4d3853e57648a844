package proof

import (
	"bytes"
	"slices"

	"landbridge/api"
	"landbridge/book"
	"landbridge/sha"
)

// down goes from the tree of all size pairs down to the place index: at each fork turn is told how many pairs stand on the left, and whether the place is among them.
func down(index, size int, turn func(k int, left bool)) {
	for size > 1 {
		k := book.Split(size)
		left := index < k
		turn(k, left)
		if left {
			size = k
		} else {
			index, size = index-k, size-k
		}
	}
}

// proofAt answers l's proof at a place that it has.
func proofAt(l []api.Pair, place int) api.Proof {
	var path [][]byte
	rest := l
	down(place, len(l), func(k int, left bool) {
		near, far := rest[:k], rest[k:]
		if !left {
			near, far = far, near
		}
		path = append(path, book.Tree(far))
		rest = near
	})
	slices.Reverse(path)
	return api.Proof{
		Index: place,
		Size:  len(l),
		Key:   bytes.Clone(l[place].Key),
		Val:   bytes.Clone(l[place].Val),
		Path:  path,
	}
}

// sides answers of each fork on the way, the lowest one first, whether the place is on its left.
func sides(index, size int) []bool {
	var out []bool
	down(index, size, func(_ int, left bool) { out = append(out, left) })
	slices.Reverse(out)
	return out
}

// fits answers whether p has the form of a proof, whatever its digests are.
func fits(p api.Proof) bool {
	if p.Size < 1 || p.Size > api.MaxPairs || p.Index < 0 || p.Index >= p.Size {
		return false
	}
	if len(p.Key) > api.MaxKey || len(p.Val) > api.MaxVal || len(p.Path) != len(sides(p.Index, p.Size)) {
		return false
	}
	return !slices.ContainsFunc(p.Path, func(d []byte) bool { return len(d) != api.Digest })
}

// layers answers what p's digests are of, from the root down to the pair. p must fit.
func layers(p api.Proof) [][]byte {
	out := [][]byte{book.PairBytes(api.Pair{Key: p.Key, Val: p.Val})}
	tree := sha.Sum(out[0])
	for i, left := range sides(p.Index, p.Size) {
		fork := book.ForkBytes(p.Path[i], tree)
		if left {
			fork = book.ForkBytes(tree, p.Path[i])
		}
		out = append(out, fork)
		tree = sha.Sum(fork)
	}
	out = append(out, book.BookBytes(p.Size, tree))
	slices.Reverse(out)
	return out
}
