package proof

import (
	"bytes"
	"encoding/binary"
	"reflect"
	"slices"
	"strings"
	"testing"

	"landbridge/api"
	"landbridge/book"
	"landbridge/sha"
)

func pair(key, val string) api.Pair { return api.Pair{Key: []byte(key), Val: []byte(val)} }

func keys(l ...string) []api.Pair {
	var out []api.Pair
	for _, k := range l {
		out = append(out, pair(k, "of "+k))
	}
	return out
}

// numbered is a book of n pairs, keys and values of many lengths.
func numbered(n int) []api.Pair {
	out := make([]api.Pair, n)
	for i := range out {
		out[i] = pair(string([]byte{byte(i)})+strings.Repeat("k", i%api.MaxKey), strings.Repeat("v", i*7%(api.MaxVal+1)))
	}
	return out
}

func sum(parts ...[]byte) []byte { return sha.Sum(slices.Concat(parts...)) }

func four(n int) []byte { return binary.BigEndian.AppendUint32(nil, uint32(n)) }

func leaf(key, val []byte) []byte { return sum([]byte{0}, four(len(key)), key, val) }

// referenceProof goes level by level: two and two are one, and who is left alone goes up as it is, without a step.
func referenceProof(l []api.Pair, place int) api.Proof {
	out := api.Proof{Index: place, Size: len(l), Key: l[place].Key, Val: l[place].Val}
	var level [][]byte
	for _, p := range l {
		level = append(level, leaf(p.Key, p.Val))
	}
	for at := place; len(level) > 1; at /= 2 {
		if at^1 < len(level) {
			out.Path = append(out.Path, level[at^1])
		}
		var up [][]byte
		for two := range slices.Chunk(level, 2) {
			if len(two) == 2 {
				two = [][]byte{sum([]byte{1}, two[0], two[1])}
			}
			up = append(up, two[0])
		}
		level = up
	}
	return out
}

// referenceRoot reckons the root of p by levels too: nothing, if the path is too long or too short.
func referenceRoot(p api.Proof) []byte {
	tree, path, at := leaf(p.Key, p.Val), p.Path, p.Index
	for many := p.Size; many > 1; many = (many + 1) / 2 {
		if at^1 < many {
			if len(path) == 0 {
				return nil
			}
			sides := [][]byte{tree, path[0]}
			tree, path = sum([]byte{1}, sides[at%2], sides[1-at%2]), path[1:]
		}
		at /= 2
	}
	if len(path) > 0 {
		return nil
	}
	return sum([]byte{2}, four(p.Size), tree)
}

func referenceShown(root []byte, p api.Proof) bool {
	form := p.Size >= 1 && p.Size <= 200 && p.Index >= 0 && p.Index < p.Size && len(p.Key) <= 60 && len(p.Val) <= 200
	for _, d := range p.Path {
		form = form && len(d) == 32
	}
	if !form {
		return false
	}
	r := referenceRoot(p)
	return r != nil && bytes.Equal(r, root)
}

func referenceAbsent(root, key []byte, g api.Gap) bool {
	left := referenceShown(root, g.Left) && string(g.Left.Key) < string(key)
	right := referenceShown(root, g.Right) && string(key) < string(g.Right.Key)
	switch [2]bool{g.HasLeft, g.HasRight} {
	case [2]bool{false, false}:
		return bytes.Equal(root, sum([]byte{2, 0, 0, 0, 0}))
	case [2]bool{true, false}:
		return left && g.Left.Index+1 == g.Left.Size
	case [2]bool{false, true}:
		return right && g.Right.Index == 0
	}
	return left && right && g.Left.Size == g.Right.Size && g.Left.Index+1 == g.Right.Index
}

func sameProof(a, b api.Proof) bool {
	return a.Index == b.Index && a.Size == b.Size && bytes.Equal(a.Key, b.Key) && bytes.Equal(a.Val, b.Val) && slices.EqualFunc(a.Path, b.Path, bytes.Equal)
}

func sameGap(a, b api.Gap) bool {
	return a.HasLeft == b.HasLeft && a.HasRight == b.HasRight && sameProof(a.Left, b.Left) && sameProof(a.Right, b.Right)
}

// deepCopy shares no memory with p.
func deepCopy(p api.Proof) api.Proof {
	p.Key, p.Val, p.Path = bytes.Clone(p.Key), bytes.Clone(p.Val), slices.Clone(p.Path)
	for i := range p.Path {
		p.Path[i] = bytes.Clone(p.Path[i])
	}
	return p
}

func mustRoot(t testing.TB, l []api.Pair) []byte {
	t.Helper()
	r, f := book.Root(l)
	if f != (api.Fault{}) {
		t.Fatalf("%v comes of %d pairs", f, len(l))
	}
	return r
}

func mustShow(t testing.TB, l []api.Pair, key string) api.Proof {
	t.Helper()
	p, err := Show(l, []byte(key))
	if err != api.OK {
		t.Fatalf("%d comes of %q among %d pairs", err, key, len(l))
	}
	return p
}

func mustGap(t testing.TB, l []api.Pair, key string) api.Gap {
	t.Helper()
	g, err := ShowGap(l, []byte(key))
	if err != api.OK {
		t.Fatalf("%d comes of %q among %d pairs", err, key, len(l))
	}
	return g
}

// checkErrors: these come of Show and ShowGap, and nothing beside an error.
func checkErrors(t *testing.T, name string, l []api.Pair, key string, show, gap api.Errno) {
	t.Helper()
	p, err := Show(l, []byte(key))
	if err != show || err != api.OK && !reflect.DeepEqual(p, api.Proof{}) {
		t.Errorf("%s: Show answers %d and a proof at %d of %d, not %d", name, err, p.Index, p.Size, show)
	}
	g, err := ShowGap(l, []byte(key))
	if err != gap || err != api.OK && !reflect.DeepEqual(g, api.Gap{}) {
		t.Errorf("%s: ShowGap answers %d and a gap (%v, %v), not %d", name, err, g.HasLeft, g.HasRight, gap)
	}
}

func checkShown(t *testing.T, name string, root []byte, p api.Proof, want bool) {
	t.Helper()
	if got := Shown(root, p); got != want {
		t.Errorf("%s: at %d of %d: Shown answers %v", name, p.Index, p.Size, got)
	}
}

func checkAbsent(t *testing.T, name string, root []byte, key string, g api.Gap, want bool) {
	t.Helper()
	if got := Absent(root, []byte(key), g); got != want {
		t.Errorf("%s: %q between %q (%v) and %q (%v): Absent answers %v", name, key, g.Left.Key, g.HasLeft, g.Right.Key, g.HasRight, got)
	}
}

// checkClash: two unlike lists with one digest come, or nothing does. The first byte tells whether they are of a root, a fork or a pair.
func checkClash(t *testing.T, name string, l []api.Pair, p api.Proof, want bool) int {
	t.Helper()
	a, b, ok := Clash(l, p)
	switch {
	case ok != want:
		t.Fatalf("%s: at %d of %d, with %d pairs: Clash answers %v", name, p.Index, p.Size, len(l), ok)
	case !ok && (len(a) != 0 || len(b) != 0):
		t.Fatalf("%s: %d and %d bytes beside false", name, len(a), len(b))
	case ok && (bytes.Equal(a, b) || !bytes.Equal(sha.Sum(a), sha.Sum(b))):
		t.Fatalf("%s: %x and %x are no clash", name, a, b)
	case !ok || len(a) == 0:
		return -1
	}
	return int(a[0])
}
