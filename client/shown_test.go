package client

import (
	"bytes"
	"math"
	"testing"

	"landbridge/api"
	"landbridge/book"
	"landbridge/proof"
)

func bookOf(t testing.TB, keys ...string) ([]api.Pair, []byte) {
	t.Helper()
	var l []api.Pair
	for _, k := range keys {
		l = append(l, api.Pair{Key: []byte(k), Val: []byte("of " + k)})
	}
	root, f := book.Root(l)
	if f.Err != api.OK {
		t.Fatal(f)
	}
	return l, root
}

func proofOf(t testing.TB, l []api.Pair, key string) api.Proof {
	t.Helper()
	p, err := proof.Show(l, []byte(key))
	if err != api.OK {
		t.Fatal(err)
	}
	return p
}

func gapOf(t testing.TB, l []api.Pair, key string) api.Gap {
	t.Helper()
	g, err := proof.ShowGap(l, []byte(key))
	if err != api.OK {
		t.Fatal(err)
	}
	return g
}

func checkMember(t *testing.T, name string, c api.Client, now, height int, key, val string, p api.Proof, want api.Errno) {
	t.Helper()
	if got := Member(c, now, height, []byte(key), []byte(val), p); got != want {
		t.Errorf("%s: %d comes, not %d", name, got, want)
	}
	if want != referenceMember(c, now, height, []byte(key), []byte(val), p) {
		t.Errorf("%s: the reference answers otherwise", name)
	}
}

func checkMissing(t *testing.T, name string, c api.Client, now, height int, key string, g api.Gap, want api.Errno) {
	t.Helper()
	if got := Missing(c, now, height, []byte(key), g); got != want {
		t.Errorf("%s: %d comes, not %d", name, got, want)
	}
	if want != referenceMissing(c, now, height, []byte(key), g) {
		t.Errorf("%s: the reference answers otherwise", name)
	}
}

// twoBooks is a client that knows two books: at height 3, time 10, b, d and f; at height 5, time 15, b, e and f; it trusts for 20.
func twoBooks(t testing.TB) (api.Client, []api.Pair, []api.Pair) {
	first, firstRoot := bookOf(t, "b", "d", "f")
	second, secondRoot := bookOf(t, "b", "e", "f")
	c := knowing(20,
		api.Known{Height: 3, Time: 10, Root: firstRoot, Next: filled(0)},
		api.Known{Height: 5, Time: 15, Root: secondRoot, Next: filled(1)})
	return c, first, second
}

// G4: what stands at which height.
func TestMembers(t *testing.T) {
	c, first, second := twoBooks(t)
	for _, k := range []string{"b", "d", "f"} {
		checkMember(t, k, c, 20, 3, k, "of "+k, proofOf(t, first, k), api.OK)
		checkMember(t, k+", at another height", c, 20, 5, k, "of "+k, proofOf(t, first, k), api.ErrProof)
	}
	for _, k := range []string{"b", "e", "f"} {
		checkMember(t, k, c, 20, 5, k, "of "+k, proofOf(t, second, k), api.OK)
		checkMember(t, k+", at another height", c, 20, 3, k, "of "+k, proofOf(t, second, k), api.ErrProof)
	}
	p := proofOf(t, first, "d")
	for _, one := range [][2]string{{"b", "of d"}, {"", "of d"}, {"dd", "of d"}, {"d", "of b"}, {"d", ""}, {"d", "of d "}, {"b", "of b"}, {"", ""}, {"of d", "d"}} {
		checkMember(t, "another pair", c, 20, 3, one[0], one[1], p, api.ErrProof)
		lie := p
		lie.Key, lie.Val = []byte(one[0]), []byte(one[1])
		checkMember(t, "a proof of another pair", c, 20, 3, one[0], one[1], lie, api.ErrProof)
		checkMember(t, "a proof of another pair, of its own", c, 20, 3, "d", "of d", lie, api.ErrProof)
	}
	checkMember(t, "no proof", c, 20, 3, "d", "of d", api.Proof{}, api.ErrProof)
	checkMember(t, "no proof of nothing", c, 20, 3, "", "", api.Proof{}, api.ErrProof)
	for name, change := range map[string]func(p *api.Proof){
		"another place": func(p *api.Proof) { p.Index = 0 },
		"another size":  func(p *api.Proof) { p.Size++ },
		"no path":       func(p *api.Proof) { p.Path = nil },
		"another path":  func(p *api.Proof) { p.Path = [][]byte{p.Path[1], p.Path[0]} },
	} {
		other := p
		change(&other)
		checkMember(t, name, c, 20, 3, "d", "of d", other, api.ErrProof)
	}
}

// G4: what is missing at which height.
func TestMissingOnes(t *testing.T) {
	c, first, second := twoBooks(t)
	for _, k := range []string{"", "a", "c", "e", "ee", "g"} {
		checkMissing(t, k, c, 20, 3, k, gapOf(t, first, k), api.OK)
		checkMissing(t, k+", at another height", c, 20, 5, k, gapOf(t, first, k), api.ErrProof)
	}
	for _, k := range []string{"", "a", "c", "d", "ee", "g"} {
		checkMissing(t, k, c, 20, 5, k, gapOf(t, second, k), api.OK)
		checkMissing(t, k+", at another height", c, 20, 3, k, gapOf(t, second, k), api.ErrProof)
	}
	g := gapOf(t, first, "c")
	for _, k := range []string{"", "a", "b", "d", "e", "f", "g"} {
		checkMissing(t, "another key", c, 20, 3, k, g, api.ErrProof)
	}
	checkMissing(t, "no gap", c, 20, 3, "c", api.Gap{}, api.ErrProof)
	half := g
	half.HasLeft = false
	checkMissing(t, "half a gap", c, 20, 3, "c", half, api.ErrProof)

	_, empty := bookOf(t)
	c.Known[0].Root = empty
	checkMissing(t, "an empty book", c, 20, 3, "c", api.Gap{}, api.OK)
	checkMember(t, "an empty book", c, 20, 3, "b", "of b", proofOf(t, first, "b"), api.ErrProof)
}

// G4: the client's own errors, what it doesn't know, what is too old, what is not shown.
func TestErrorsOfMembers(t *testing.T) {
	good, first, _ := twoBooks(t)
	for i := range 64 {
		c, now, height, want := deepCopy(good), 20, 3, api.OK
		p, g := proofOf(t, first, "d"), gapOf(t, first, "c")
		if i&1 > 0 {
			p, g, want = api.Proof{}, api.Gap{}, api.ErrProof
		}
		if i&2 > 0 {
			now, want = 35, api.ErrTime
		}
		if i&4 > 0 {
			height, want = 4, api.ErrNone
		}
		if i&8 > 0 {
			c.Frozen, want = true, api.ErrState
		}
		if i&16 > 0 {
			now, want = api.MaxNum+1, api.ErrRange
		}
		if i&32 > 0 {
			c.Chain, want = "", api.ErrName
		}
		checkMember(t, "several", c, now, height, "d", "of d", p, want)
		checkMissing(t, "several", c, now, height, "c", g, want)
	}
	for _, one := range []struct {
		want   api.Errno
		change func(c *api.Client)
	}{
		{api.ErrRange, func(c *api.Client) { c.Trust = 0 }},
		{api.ErrMany, func(c *api.Client) { c.Known = nil }},
		{api.ErrRange, func(c *api.Client) { c.Known[1].Time = -1 }},
		{api.ErrForm, func(c *api.Client) { c.Known[1].Height = 3 }},
	} {
		c := deepCopy(good)
		one.change(&c)
		checkMember(t, "a wrong client", c, 20, 3, "d", "of d", proofOf(t, first, "d"), one.want)
		checkMissing(t, "a wrong client", c, 20, 3, "c", gapOf(t, first, "c"), one.want)
	}
}

// G4: the client is active by the last one that it knows, whichever height is asked for.
func TestWhenMembersAreShown(t *testing.T) {
	c, first, second := twoBooks(t)
	for now, want := range map[int]api.Errno{
		math.MinInt: api.ErrRange, -1: api.ErrRange, 0: api.OK, 10: api.OK, 29: api.OK, 30: api.OK, 34: api.OK,
		35: api.ErrTime, 36: api.ErrTime, api.MaxNum: api.ErrTime, api.MaxNum + 1: api.ErrRange, math.MaxInt: api.ErrRange,
	} {
		checkMember(t, "the first one", c, now, 3, "d", "of d", proofOf(t, first, "d"), want)
		checkMember(t, "the last one", c, now, 5, "e", "of e", proofOf(t, second, "e"), want)
		checkMissing(t, "the first one", c, now, 3, "e", gapOf(t, first, "e"), want)
		checkMissing(t, "the last one", c, now, 5, "d", gapOf(t, second, "d"), want)
	}
	for _, height := range []int{math.MinInt, -3, 0, 2, 4, 6, api.MaxNum, math.MaxInt} {
		checkMember(t, "not known", c, 20, height, "d", "of d", proofOf(t, first, "d"), api.ErrNone)
		checkMissing(t, "not known", c, 20, height, "e", gapOf(t, first, "e"), api.ErrNone)
	}
}

// G4 with Z3: an empty key, and an empty value, are as nil.
func TestEmptyKeysAndValues(t *testing.T) {
	l := []api.Pair{{}, {Key: []byte("k")}}
	root, _ := book.Root(l)
	c := knowing(5, api.Known{Height: 1, Time: 1, Root: root, Next: filled(0)})
	p := proofOf(t, l, "")
	for _, key := range [][]byte{nil, {}} {
		for _, val := range [][]byte{nil, {}} {
			for _, own := range [][]byte{nil, {}} {
				p.Key, p.Val = own, own
				if err := Member(c, 1, 1, key, val, p); err != api.OK {
					t.Errorf("%d comes", err)
				}
			}
		}
	}
	l = l[1:]
	root, _ = book.Root(l)
	c.Known[0].Root = root
	g := gapOf(t, l, "")
	for _, key := range [][]byte{nil, {}} {
		if err := Missing(c, 1, 1, key, g); err != api.OK {
			t.Errorf("%d comes", err)
		}
	}
}

// Z2 with G4: neither what is handed in nor the room behind it is changed, and that room means nothing.
func TestProofsAreOnlyRead(t *testing.T) {
	c, first, _ := twoBooks(t)
	p, g := proofOf(t, first, "d"), gapOf(t, first, "c")
	room := []byte("dof dcbehind")
	before := bytes.Clone(room)
	p.Key, p.Val = room[:1], room[1:5]
	path := append(bytes.Clone(p.Path[0]), "behind"...)
	p.Path = append([][]byte{path[:32]}, p.Path[1:]...)
	pathBefore := bytes.Clone(path)
	steps := append(p.Path, []byte("behind"))
	p.Path = steps[:len(steps)-1]
	checkMember(t, "with room behind", c, 20, 3, "d", "of d", p, api.OK)
	if err := Member(c, 20, 3, room[:1], room[1:5], p); err != api.OK {
		t.Errorf("%d comes", err)
	}
	if err := Missing(c, 20, 3, room[5:6], g); err != api.OK {
		t.Errorf("%d comes", err)
	}
	if !bytes.Equal(room, before) || !bytes.Equal(path, pathBefore) || string(steps[len(steps)-1]) != "behind" {
		t.Error("an argument or its spare room has changed")
	}
}
