package proof

import (
	"bytes"
	"encoding/hex"
	"math"
	"math/rand"
	"slices"
	"strings"
	"sync"
	"testing"

	"landbridge/api"
)

// sizes are all small ones, and those beside powers of two, up to the greatest.
func sizes() []int {
	out := []int{63, 64, 65, 128, 129, 199, 200}
	for n := range 35 {
		out = append(out, n)
	}
	return out
}

// E1 and E2: at each place.
func TestShowAtEveryPlace(t *testing.T) {
	for _, n := range sizes() {
		l := numbered(n)
		root := mustRoot(t, l)
		for i, p := range l {
			got := mustShow(t, l, string(p.Key))
			if !sameProof(got, referenceProof(l, i)) {
				t.Fatalf("place %d of %d: another proof, at %d of %d, with %d steps", i, n, got.Index, got.Size, len(got.Path))
			}
			checkShown(t, "its own", root, got, true)
			checkClash(t, "its own", l, got, false)
		}
	}
}

// E1 and E2: ahead of all, between each two, behind all.
func TestShowGapAtEveryPlace(t *testing.T) {
	for _, n := range sizes() {
		l := numbered(n + 1)
		for i := range n + 1 {
			key := string(l[i].Key)
			rest := slices.Delete(slices.Clone(l), i, i+1)
			var want api.Gap
			if i > 0 {
				want.HasLeft, want.Left = true, referenceProof(rest, i-1)
			}
			if i < n {
				want.HasRight, want.Right = true, referenceProof(rest, i)
			}
			got := mustGap(t, rest, key)
			if !sameGap(got, want) {
				t.Fatalf("place %d of %d: another gap, between %d and %d", i, n, got.Left.Index, got.Right.Index)
			}
			checkAbsent(t, "its own", mustRoot(t, rest), key, got, true)
		}
	}
}

// E1: written out by hand, where the two sides are not of one size.
func TestProofsOfThreePairs(t *testing.T) {
	l := []api.Pair{pair("a", "1"), pair("bc", "22"), pair("d", "")}
	a := sum([]byte("\x00\x00\x00\x00\x01a1"))
	b := sum([]byte("\x00\x00\x00\x00\x02bc22"))
	d := sum([]byte("\x00\x00\x00\x00\x01d"))
	both := sum([]byte{1}, a, b)
	for _, want := range []api.Proof{
		{Index: 0, Size: 3, Key: []byte("a"), Val: []byte("1"), Path: [][]byte{b, d}},
		{Index: 1, Size: 3, Key: []byte("bc"), Val: []byte("22"), Path: [][]byte{a, d}},
		{Index: 2, Size: 3, Key: []byte("d"), Path: [][]byte{both}},
	} {
		if got := mustShow(t, l, string(want.Key)); !sameProof(got, want) {
			t.Errorf("%q: %v comes", want.Key, got)
		}
	}
}

// E1 and E2: reckoned by other hands.
func TestAKnownPath(t *testing.T) {
	l := []api.Pair{{Key: []byte("a"), Val: []byte{0}}, {Key: []byte("b"), Val: []byte{1}}}
	p := mustShow(t, l, "a")
	if len(p.Path) != 1 || hex.EncodeToString(p.Path[0]) != "7d676b88ebbf697b21bfe62872e64fdeceb7a836ea3691348c60acf5092eb7cd" {
		t.Errorf("%x comes", p.Path)
	}
	empty, err := hex.DecodeString("395c2f5598a1643a205154c6f4c46ce36895b28e6c35660a95e5c6fd5ef9aeab")
	if err != nil {
		t.Fatal(err)
	}
	checkAbsent(t, "of an empty book", empty, "a", api.Gap{}, true)
}

// E1: what Wrong says comes first, and whether the key stands there hangs on all of it.
func TestErrorsOfShow(t *testing.T) {
	longKey, longVal := strings.Repeat("k", api.MaxKey+1), strings.Repeat("v", api.MaxVal+1)
	checkErrors(t, "an empty book", nil, "a", api.ErrNone, api.OK)
	checkErrors(t, "an empty book, the empty key", nil, "", api.ErrNone, api.OK)
	checkErrors(t, "it stands there", keys("a", "c"), "a", api.OK, api.ErrName)
	checkErrors(t, "the empty key stands there", keys("", "c"), "", api.OK, api.ErrName)
	for _, k := range []string{"", "b", "a\x00", "d", "A", "cc", longKey, strings.Repeat("x", 1000)} {
		checkErrors(t, "it does not stand there", keys("a", "c"), k, api.ErrNone, api.OK)
	}
	for _, k := range []string{"a", "b", "zz"} {
		checkErrors(t, "out of order", keys("b", "a"), k, api.ErrForm, api.ErrForm)
		checkErrors(t, "twice", keys("a", "a"), k, api.ErrForm, api.ErrForm)
		checkErrors(t, "a long key", keys("a", longKey), k, api.ErrMuch, api.ErrMuch)
		checkErrors(t, "a long value", []api.Pair{pair("a", longVal)}, k, api.ErrMuch, api.ErrMuch)
		checkErrors(t, "too many", numbered(api.MaxPairs+1), k, api.ErrMany, api.ErrMany)
	}
	checkErrors(t, "as many as may be", numbered(api.MaxPairs), "\x00", api.OK, api.ErrName)
	full := []api.Pair{pair(longKey[1:], longVal[1:])}
	checkErrors(t, "as much as may be", full, longKey[1:], api.OK, api.ErrName)
	checkErrors(t, "and one byte more", full, longKey, api.ErrNone, api.OK)
}

// E1: a key that is longer than those of books has its place beside them.
func TestTheGapOfALongKey(t *testing.T) {
	l, key := keys("a", "b", "c"), "b"+strings.Repeat("x", 500)
	g := mustGap(t, l, key)
	if want := (api.Gap{HasLeft: true, HasRight: true, Left: referenceProof(l, 1), Right: referenceProof(l, 2)}); !sameGap(g, want) {
		t.Errorf("between %q and %q", g.Left.Key, g.Right.Key)
	}
	checkAbsent(t, "long", mustRoot(t, l), key, g, true)
}

// E2: whatever is another one, nothing is shown.
func TestShownHangsOnEverything(t *testing.T) {
	for _, n := range []int{1, 2, 3, 5, 8, 13, 21} {
		l := numbered(n)
		root := mustRoot(t, l)
		for i := range l {
			own := referenceProof(l, i)
			for name, change := range changes() {
				p := deepCopy(own)
				change(&p)
				if sameProof(p, own) {
					continue
				}
				checkShown(t, name, root, p, false)
				checkClash(t, name, l, p, false)
			}
		}
	}
}

// changes are those that leave nothing shown; one that a proof has no room for leaves it as it is.
func changes() map[string]func(p *api.Proof) {
	each := func(f func(d []byte) []byte) func(p *api.Proof) {
		return func(p *api.Proof) {
			for i := range p.Path {
				p.Path[i] = f(p.Path[i])
			}
		}
	}
	return map[string]func(p *api.Proof){
		"the next place":     func(p *api.Proof) { p.Index++ },
		"the place ahead":    func(p *api.Proof) { p.Index-- },
		"below nought":       func(p *api.Proof) { p.Index = -1 },
		"as its size":        func(p *api.Proof) { p.Index = p.Size },
		"far below":          func(p *api.Proof) { p.Index = math.MinInt },
		"far above":          func(p *api.Proof) { p.Index = math.MaxInt },
		"one more":           func(p *api.Proof) { p.Size++ },
		"one less":           func(p *api.Proof) { p.Size-- },
		"no size":            func(p *api.Proof) { p.Size = 0 },
		"a size below":       func(p *api.Proof) { p.Size = -p.Size },
		"a great size":       func(p *api.Proof) { p.Size = math.MaxInt },
		"a size of 33 bits":  func(p *api.Proof) { p.Size += 1 << 32 },
		"a longer key":       func(p *api.Proof) { p.Key = append(p.Key, 'x') },
		"another key":        func(p *api.Proof) { p.Key = []byte("other") },
		"no key":             func(p *api.Proof) { p.Key = nil },
		"a longer value":     func(p *api.Proof) { p.Val = append(p.Val, 'x') },
		"another value":      func(p *api.Proof) { p.Val = []byte("other") },
		"no value":           func(p *api.Proof) { p.Val = nil },
		"all is key":         func(p *api.Proof) { p.Key, p.Val = slices.Concat(p.Key, p.Val), nil },
		"all is value":       func(p *api.Proof) { p.Key, p.Val = nil, slices.Concat(p.Key, p.Val) },
		"no path":            func(p *api.Proof) { p.Path = nil },
		"a step more":        func(p *api.Proof) { p.Path = append(p.Path, make([]byte, api.Digest)) },
		"an empty step more": func(p *api.Proof) { p.Path = append(p.Path, nil) },
		"a step less":        func(p *api.Proof) { p.Path = p.Path[:max(0, len(p.Path)-1)] },
		"upside down":        func(p *api.Proof) { slices.Reverse(p.Path) },
		"short steps":        each(func(d []byte) []byte { return d[:api.Digest-1] }),
		"long steps":         each(func(d []byte) []byte { return append(d, 0) }),
		"empty steps":        each(func(d []byte) []byte { return nil }),
		"another first byte": each(func(d []byte) []byte { d[0]++; return d }),
		"another last byte":  each(func(d []byte) []byte { d[api.Digest-1]++; return d }),
	}
}

// E2: another root of any length.
func TestShownOfOtherRoots(t *testing.T) {
	l := keys("a", "b", "c")
	root, p := mustRoot(t, l), mustShow(t, l, "b")
	checkShown(t, "the root", root, p, true)
	for i := range root {
		other := bytes.Clone(root)
		other[i] ^= 0x40
		checkShown(t, "another byte", other, p, false)
	}
	for name, r := range map[string][]byte{"none": nil, "short": root[:31], "long": append(bytes.Clone(root), 0), "noughts": make([]byte, 32)} {
		checkShown(t, name, r, p, false)
		checkShown(t, name+", no proof", r, api.Proof{}, false)
		checkAbsent(t, name, r, "x", api.Gap{}, false)
		checkAbsent(t, name, r, "bb", mustGap(t, l, "bb"), false)
	}
}

// E2: where the digests agree, but the proof has not the form of one.
func TestShownAsksForTheForm(t *testing.T) {
	step := func(n int) []byte { return bytes.Repeat([]byte{7}, n) }
	text := func(n int) []byte { return bytes.Repeat([]byte("t"), n) }
	one := []byte("a")
	fork := func(parts ...[]byte) []byte { return sum([]byte{1}, slices.Concat(parts...)) }
	root := func(n int, tree []byte) []byte { return sum([]byte{2}, four(n), tree) }
	at := func(i, n int, path ...[]byte) api.Proof { return api.Proof{Index: i, Size: n, Key: one, Path: path} }
	a := leaf(one, nil)

	checkShown(t, "a key as long as may be", root(1, leaf(text(60), nil)), api.Proof{Size: 1, Key: text(60)}, true)
	checkShown(t, "a key too long", root(1, leaf(text(61), nil)), api.Proof{Size: 1, Key: text(61)}, false)
	checkShown(t, "a value as long as may be", root(1, leaf(nil, text(200))), api.Proof{Size: 1, Val: text(200)}, true)
	checkShown(t, "a value too long", root(1, leaf(nil, text(201))), api.Proof{Size: 1, Val: text(201)}, false)

	checkShown(t, "one", root(1, a), at(0, 1), true)
	checkShown(t, "none", root(0, a), at(0, 0), false)
	checkShown(t, "none, without a tree", root(0, nil), at(0, 0), false)
	checkShown(t, "below none", root(-1, a), at(0, -1), false)
	checkShown(t, "below one", root(1, a), at(-1, 1), false)
	checkShown(t, "behind one", root(1, a), at(1, 1), false)
	checkShown(t, "more than 32 bits", root(1, a), at(0, 1<<32+1), false)

	checkShown(t, "a step", root(2, fork(a, step(32))), at(0, 2, step(32)), true)
	checkShown(t, "on the right", root(2, fork(step(32), a)), at(1, 2, step(32)), true)
	checkShown(t, "on the wrong side", root(2, fork(step(32), a)), at(0, 2, step(32)), false)
	checkShown(t, "behind two", root(2, fork(step(32), a)), at(2, 2, step(32)), false)
	checkShown(t, "ahead of two", root(2, fork(a, step(32))), at(-1, 2, step(32)), false)
	checkShown(t, "a short step", root(2, fork(a, step(31))), at(0, 2, step(31)), false)
	checkShown(t, "a long step", root(2, fork(a, step(33))), at(0, 2, step(33)), false)
	checkShown(t, "an empty step", root(2, fork(a)), at(0, 2, nil), false)
	checkShown(t, "no step", root(2, a), at(0, 2), false)
	checkShown(t, "a step too many", root(1, fork(a, step(32))), at(0, 1, step(32)), false)
	checkShown(t, "a step behind the last one", root(2, fork(a, step(32))), at(0, 2, step(32), step(32)), false)
	checkShown(t, "a step too few", root(3, fork(a, step(32))), at(0, 3, step(32)), false)
	checkShown(t, "the last of three", root(3, fork(step(32), a)), at(2, 3, step(32)), true)
	checkShown(t, "the last of three, two steps", root(3, fork(step(32), fork(step(32), a))), at(2, 3, step(32), step(32)), false)

	last := func(n int) api.Proof {
		p := at(n-1, n)
		p.Path = referenceProof(make([]api.Pair, n), n-1).Path
		return p
	}
	checkShown(t, "200 pairs", referenceRoot(last(200)), last(200), true)
	checkShown(t, "201 pairs", referenceRoot(last(201)), last(201), false)
}

// E2: what is beside the key, and how.
func TestAbsentHangsOnTheNeighbours(t *testing.T) {
	l := keys("b", "d", "f", "h", "j")
	root := mustRoot(t, l)
	at := func(i int) api.Proof { return referenceProof(l, i) }
	between := func(i, j int) api.Gap { return api.Gap{HasLeft: true, HasRight: true, Left: at(i), Right: at(j)} }
	behind := func(i int) api.Gap { return api.Gap{HasLeft: true, Left: at(i)} }
	ahead := func(i int) api.Gap { return api.Gap{HasRight: true, Right: at(i)} }

	for _, k := range []string{"d\x00", "e", "ezzzz"} {
		checkAbsent(t, "between", root, k, between(1, 2), true)
	}
	for _, k := range []string{"", "a", "b", "c", "d", "f", "f\x00", "g", "z"} {
		checkAbsent(t, "not between", root, k, between(1, 2), false)
	}
	for _, k := range []string{"d", "e", "f", "g"} {
		checkAbsent(t, "with one between", root, k, between(1, 3), false)
		checkAbsent(t, "one place twice", root, k, between(1, 1), false)
		checkAbsent(t, "turned round", root, k, between(2, 1), false)
		checkAbsent(t, "first and last", root, k, between(0, 4), false)
		checkAbsent(t, "nothing", root, k, api.Gap{}, false)
		checkAbsent(t, "left alone", root, k, behind(1), false)
		checkAbsent(t, "right alone", root, k, ahead(2), false)
	}
	checkAbsent(t, "behind all", root, "k", behind(4), true)
	checkAbsent(t, "behind all, just", root, "j\x00", behind(4), true)
	checkAbsent(t, "the last one", root, "j", behind(4), false)
	checkAbsent(t, "ahead of the last one", root, "i", behind(4), false)
	checkAbsent(t, "behind the last but one", root, "k", behind(3), false)
	checkAbsent(t, "ahead of all", root, "a", ahead(0), true)
	checkAbsent(t, "the empty key", root, "", ahead(0), true)
	checkAbsent(t, "the first one", root, "b", ahead(0), false)
	checkAbsent(t, "behind the first one", root, "c", ahead(0), false)
	checkAbsent(t, "ahead of the second one", root, "a", ahead(1), false)
	checkAbsent(t, "the only one, behind", mustRoot(t, keys("b")), "c", api.Gap{HasLeft: true, Left: referenceProof(keys("b"), 0)}, true)
	checkAbsent(t, "the only one, ahead", mustRoot(t, keys("b")), "a", api.Gap{HasRight: true, Right: referenceProof(keys("b"), 0)}, true)
	checkAbsent(t, "the only one, on both sides", mustRoot(t, keys("b")), "b", api.Gap{HasLeft: true, HasRight: true, Left: referenceProof(keys("b"), 0), Right: referenceProof(keys("b"), 0)}, false)
}

// E2: each neighbour that is there must be shown; one that is not there means nothing (Z5).
func TestAbsentAsksForBothProofs(t *testing.T) {
	l := keys("b", "d", "f", "h", "j")
	root := mustRoot(t, l)
	other := api.Proof{Index: 3, Size: 7, Key: []byte("zz"), Path: [][]byte{nil, []byte("x")}}
	for name, change := range changes() {
		left, right := mustGap(t, l, "e"), mustGap(t, l, "e")
		change(&left.Left)
		change(&right.Right)
		if !sameGap(left, mustGap(t, l, "e")) {
			checkAbsent(t, name+" on the left", root, "e", left, false)
		}
		if !sameGap(right, mustGap(t, l, "e")) {
			checkAbsent(t, name+" on the right", root, "e", right, false)
		}
		last, first := mustGap(t, l, "k"), mustGap(t, l, "a")
		change(&last.Left)
		change(&first.Right)
		if !sameGap(last, mustGap(t, l, "k")) {
			checkAbsent(t, name+" behind all", root, "k", last, false)
		}
		if !sameGap(first, mustGap(t, l, "a")) {
			checkAbsent(t, name+" ahead of all", root, "a", first, false)
		}
	}
	last, first := mustGap(t, l, "k"), mustGap(t, l, "a")
	last.Right, first.Left = other, other
	checkAbsent(t, "nothing on the right", root, "k", last, true)
	checkAbsent(t, "nothing on the left", root, "a", first, true)
	last.HasRight, first.HasLeft = true, true
	checkAbsent(t, "something on the right", root, "k", last, false)
	checkAbsent(t, "something on the left", root, "a", first, false)
	for _, k := range []string{"", "a", strings.Repeat("k", 100)} {
		checkAbsent(t, "an empty book", mustRoot(t, nil), k, api.Gap{Left: other, Right: other}, true)
		checkAbsent(t, "an empty book, with a left", mustRoot(t, nil), k, api.Gap{HasLeft: true}, false)
		checkAbsent(t, "an empty book, with a right", mustRoot(t, nil), k, api.Gap{HasRight: true}, false)
		checkAbsent(t, "no empty book", root, k, api.Gap{Left: other, Right: other}, false)
	}
}

// E2: a neighbour of another book.
func TestAbsentOfTwoBooks(t *testing.T) {
	l, more := keys("b", "d", "f"), keys("b", "d", "e", "f")
	g := mustGap(t, l, "e")
	checkAbsent(t, "of its book", mustRoot(t, l), "e", g, true)
	checkAbsent(t, "of the other one", mustRoot(t, more), "e", g, false)
	g.Right = referenceProof(more, 2)
	checkAbsent(t, "of both", mustRoot(t, l), "e", g, false)
	checkAbsent(t, "of both, by the other root", mustRoot(t, more), "e", g, false)
}

// E3: without a clash of digests. TestWithAWeakDigest has those with one.
func TestNoClash(t *testing.T) {
	l := keys("b", "d", "f")
	p := mustShow(t, l, "d")
	checkClash(t, "its own", l, p, false)
	checkClash(t, "of another book", keys("b", "d"), p, false)
	checkClash(t, "of an empty book", nil, p, false)
	checkClash(t, "nothing", l, api.Proof{}, false)
	checkClash(t, "nothing of nothing", nil, api.Proof{}, false)
	turned := keys("b", "a", "c")
	checkClash(t, "out of order", turned, referenceProof(turned, 1), false)
	p = referenceProof(turned, 1)
	p.Val = []byte("other")
	checkClash(t, "out of order, another value", turned, p, false)
	many := make([]api.Pair, api.MaxPairs+1)
	checkClash(t, "too many", many, referenceProof(many, 200), false)
	long := []api.Pair{pair(strings.Repeat("k", api.MaxKey+1), "")}
	checkClash(t, "too much", long, referenceProof(long, 0), false)
}

// E1 to E3: books that come by chance.
func TestBooksByChance(t *testing.T) {
	r := rand.New(rand.NewSource(7))
	for range 300 {
		l := randomBook(r)
		root := mustRoot(t, l)
		for k := range 24 {
			key := []byte{byte(k)}
			p, err := Show(l, key)
			g, err2 := ShowGap(l, key)
			there := slices.ContainsFunc(l, func(p api.Pair) bool { return bytes.Equal(p.Key, key) })
			if there != (err == api.OK) || there != Shown(root, p) || there != (err2 == api.ErrName) || there && Absent(root, key, g) {
				t.Fatalf("%d, of %d pairs, there: %v: %d and %d come", k, len(l), there, err, err2)
			}
			if !there && (err != api.ErrNone || err2 != api.OK || !Absent(root, key, g)) {
				t.Fatalf("%d, of %d pairs: %d and %d come", k, len(l), err, err2)
			}
		}
	}
}

// Z3
func TestNilAndEmptyAreTheSame(t *testing.T) {
	empty := []byte{}
	l := []api.Pair{{Key: empty, Val: empty}}
	p, err := Show(l, nil)
	q, err2 := Show([]api.Pair{{}}, empty)
	if err != api.OK || err2 != api.OK || !sameProof(p, q) {
		t.Errorf("%v, %d and %v, %d come", p, err, q, err2)
	}
	root := mustRoot(t, l)
	checkShown(t, "nil", root, api.Proof{Size: 1}, true)
	checkShown(t, "empty", root, api.Proof{Size: 1, Key: empty, Val: empty, Path: [][]byte{}}, true)
	checkErrors(t, "no pairs", []api.Pair{}, "a", api.ErrNone, api.OK)
	checkClash(t, "nil", l, api.Proof{Size: 1}, false)
	if !Absent(mustRoot(t, nil), nil, api.Gap{}) || !Absent(mustRoot(t, []api.Pair{}), empty, api.Gap{}) {
		t.Error("something stands in an empty book")
	}
	if Absent(root, nil, api.Gap{HasRight: true, Right: p}) || Absent(root, empty, api.Gap{HasLeft: true, Left: p}) {
		t.Error("the empty key is missing where it stands")
	}
}

// roomy answers b with spare room behind it.
func roomy(b []byte) []byte { return append(bytes.Clone(b), "room"...)[:len(b)] }

// roomyProof has spare room behind each list.
func roomyProof(p api.Proof) api.Proof {
	p = deepCopy(p)
	p.Key, p.Val = roomy(p.Key), roomy(p.Val)
	for i := range p.Path {
		p.Path[i] = roomy(p.Path[i])
	}
	p.Path = append(p.Path, []byte("room"))[:len(p.Path)]
	return p
}

// roomIsWhole: what stands behind b is as it was.
func roomIsWhole(b []byte) bool { return string(b[len(b):len(b)+4]) == "room" }

func proofIsWhole(p, was api.Proof) bool {
	whole := sameProof(p, was) && roomIsWhole(p.Key) && roomIsWhole(p.Val) && string(p.Path[:len(p.Path)+1][len(p.Path)]) == "room"
	for _, d := range p.Path {
		whole = whole && roomIsWhole(d)
	}
	return whole
}

// Z2: neither what is handed in nor the room behind it is changed, and that room means nothing.
func TestArgumentsAreOnlyRead(t *testing.T) {
	was := keys("b", "d", "f", "h", "j")
	var l []api.Pair
	for _, p := range was {
		l = append(l, api.Pair{Key: roomy(p.Key), Val: roomy(p.Val)})
	}
	l = append(l, pair("room", "room"))[:len(l)]
	root, key := roomy(mustRoot(t, was)), roomy([]byte("e"))
	p := roomyProof(referenceProof(was, 1))
	g := api.Gap{HasLeft: true, HasRight: true, Left: p, Right: roomyProof(referenceProof(was, 2))}
	wrong := roomyProof(p)
	wrong.Val[0]++

	shown, _ := Show(l, l[1].Key)
	gap, _ := ShowGap(l, key)
	if !sameProof(shown, p) || !sameGap(gap, g) || !Shown(root, p) || !Absent(root, key, g) {
		t.Error("the spare room is looked at")
	}
	checkClash(t, "its own", l, p, false)
	checkClash(t, "another one", l, wrong, false)
	for i, q := range l {
		if !bytes.Equal(q.Key, was[i].Key) || !bytes.Equal(q.Val, was[i].Val) || !roomIsWhole(q.Key) || !roomIsWhole(q.Val) {
			t.Errorf("pair %d has changed", i)
		}
	}
	if string(l[:6][5].Key) != "room" || !roomIsWhole(root) || !roomIsWhole(key) || string(key) != "e" || !bytes.Equal(root, mustRoot(t, was)) {
		t.Error("a list or its spare room has changed")
	}
	if !proofIsWhole(p, referenceProof(was, 1)) || !proofIsWhole(g.Right, referenceProof(was, 2)) {
		t.Error("a proof or its spare room has changed")
	}
}

// lists are all lists of bytes of p, with their spare room.
func lists(p api.Proof) [][]byte {
	out := [][]byte{p.Key, p.Val}
	out = append(out, p.Path[:cap(p.Path)]...)
	for i, b := range out {
		out[i] = b[:cap(b)]
	}
	return out
}

// checkApart: no two of them share memory.
func checkApart(t *testing.T, l [][]byte) {
	t.Helper()
	for i, b := range l {
		for at := range b {
			b[at] = byte(i)
		}
	}
	for i, b := range l {
		for at := range b {
			if b[at] != byte(i) {
				t.Fatalf("list %d shares memory with another one", i)
			}
		}
	}
}

// Z2: answers share no memory with arguments, with other answers or with each other, spare room included.
func TestAnswersAreNewMemory(t *testing.T) {
	same := []byte("d")
	l := []api.Pair{pair("b", "b"), {Key: same, Val: same}, pair("f", "f"), pair("h", "h"), pair("j", "j"), pair("l", "l"), pair("n", "n")}
	p, _ := Show(l, same)
	g, _ := ShowGap(l, []byte("e"))
	checkApart(t, slices.Concat(lists(p), lists(g.Left), lists(g.Right)))
	if p.Path = p.Path[:cap(p.Path)]; len(p.Path) > 0 {
		clear(p.Path)
		clear(g.Left.Path[:cap(g.Left.Path)])
	}
	if string(same) != "d" || !sameProof(mustShow(t, l, "d"), referenceProof(l, 1)) {
		t.Error("what is answered is shared")
	}
	g, _ = ShowGap(l, []byte("e"))
	clear(g.Left.Path[:cap(g.Left.Path)])
	if !sameProof(g.Right, referenceProof(l, 2)) {
		t.Error("the two paths share memory")
	}
}

// Z1: calls that run side by side don't disturb each other.
func TestCallsSideBySide(t *testing.T) {
	var all sync.WaitGroup
	l := numbered(20)
	root, want := mustRoot(t, l), referenceProof(l, 11)
	for range 8 {
		all.Go(func() {
			for range 20 {
				p, _ := Show(l, l[11].Key)
				g, _ := ShowGap(l, []byte{11})
				_, _, clash := Clash(l, p)
				if !sameProof(p, want) || !sameProof(g.Right, want) || !Shown(root, p) || !Absent(root, []byte{11}, g) || clash {
					t.Error("another answer")
					return
				}
			}
		})
	}
	all.Wait()
}

// FuzzShown takes a book's size, a place, and how its proof is changed from bytes.
func FuzzShown(f *testing.F) {
	f.Add(uint8(5), uint8(2), 2, 5, []byte("key"), []byte("val"), []byte{0, 3, 1})
	f.Add(uint8(1), uint8(0), -1, 201, []byte(nil), []byte(nil), []byte{9})
	f.Fuzz(func(t *testing.T, n, place uint8, index, size int, key, val, path []byte) {
		l := numbered(1 + int(n)%api.MaxPairs)
		root := mustRoot(t, l)
		p := deepCopy(referenceProof(l, int(place)%len(l)))
		q := api.Proof{Index: index, Size: size, Key: key, Val: val}
		for at := range path {
			q.Path = append(q.Path, bytes.Repeat(path[:at], 8)[:min(len(path[:at])*8, int(path[at]))])
		}
		mixed := []api.Proof{p, q}
		for _, change := range path {
			one := p
			switch change % 5 {
			case 0:
				one.Index = index
			case 1:
				one.Size = size
			case 2:
				one.Key = key
			case 3:
				one.Val = val
			case 4:
				one.Path = q.Path
			}
			mixed = append(mixed, one)
		}
		for _, one := range mixed {
			checkShown(t, "shown", root, one, referenceShown(root, one))
			checkClash(t, "shown", l, one, false)
			g := api.Gap{HasLeft: index%2 == 0, HasRight: size%2 == 0, Left: p, Right: one}
			checkAbsent(t, "absent", root, string(key), g, referenceAbsent(root, key, g))
		}
	})
}
