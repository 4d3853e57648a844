package client

import (
	"math"
	"math/rand"
	"slices"
	"testing"

	"landbridge/api"
	"landbridge/header"
)

func checkFollow(t *testing.T, name string, c api.Client, u api.Update, now int, want api.Client, wantErr api.Errno) {
	t.Helper()
	got, err := Follow(c, u, now)
	if err != wantErr || !sameClient(got, want) {
		t.Errorf("%s: %v and %d come, not %v and %d", name, got, err, want, wantErr)
	}
	if got, err = referenceFollow(c, u, now); err != wantErr || !sameClient(got, want) {
		t.Errorf("%s: the reference answers otherwise: %v and %d", name, got, err)
	}
}

func checkCatch(t *testing.T, name string, c api.Client, a, b api.Update, now int, want api.Errno) {
	t.Helper()
	frozen := deepCopy(c)
	frozen.Frozen = true
	if want != api.OK {
		frozen = api.Client{}
	}
	got, err := Catch(c, a, b, now)
	if err != want || !sameClient(got, frozen) {
		t.Errorf("%s: %v and %d come, not %d", name, got, err, want)
	}
	if got, err = referenceCatch(c, a, b, now); err != want || !sameClient(got, frozen) {
		t.Errorf("%s: the reference answers otherwise: %v and %d", name, got, err)
	}
}

// checkDoubt asks all who ask whether an update is believed; other is one that is believed, of no height that u is of.
func checkDoubt(t *testing.T, name string, c api.Client, u, other api.Update, now int, want api.Errno) {
	t.Helper()
	_, err := Follow(c, u, now)
	if err != want {
		t.Errorf("%s: %d comes, not %d", name, err, want)
	}
	if want != referenceDoubt(c, u, now) {
		t.Errorf("%s: the reference answers otherwise", name)
	}
	if want == api.OK {
		want = api.ErrFit
	}
	checkCatch(t, name+", twice", c, u, u, now, want)
	if referenceDoubt(c, other, now) == api.OK {
		checkCatch(t, name+", the first of two", c, u, other, now, want)
		checkCatch(t, name+", the second of two", c, other, u, now, want)
	}
}

// G2: all errors together, and each without those ahead of it.
func TestTheFirstDoubt(t *testing.T) {
	own, others := members("u1", "v1", "w1"), members("x1", "y1", "z1")
	c := knowing(20, block{height: 3, time: 10, next: own}.known(), block{height: 30, time: 20, next: own}.known())
	good := block{chain: "b", height: 6, time: 14, root: 1, own: own, next: others}
	far := block{chain: "b", height: 35, time: 24, root: 1, own: own, next: own}.from(t, 30, own.vals...)
	type asked struct {
		block
		now, from int
		spoilt    bool
		trusted   []api.Val
	}
	breaks := []struct {
		want   api.Errno
		change func(a *asked)
	}{
		{api.ErrSeal, func(a *asked) { a.own = others }},
		{api.ErrFit, func(a *asked) { a.trusted = others.vals[:2] }},
		{api.ErrMany, func(a *asked) { a.trusted = nil }},
		{api.ErrTime, func(a *asked) { a.time = 10 }},
		{api.ErrRange, func(a *asked) { a.height = 3 }},
		{api.ErrTime, func(a *asked) { a.now = 30 }},
		{api.ErrName, func(a *asked) { a.chain = "c" }},
		{api.ErrNone, func(a *asked) { a.from = 4 }},
		{api.ErrSeal, func(a *asked) { a.spoilt = true }},
	}
	for set := range 1 << len(breaks) {
		a, want := asked{block: good, now: 14, from: 3, trusted: own.vals}, api.OK
		for i, b := range breaks {
			if set>>i&1 == 1 {
				b.change(&a)
				want = b.want
			}
		}
		u := a.block.from(t, a.from, a.trusted...)
		if a.spoilt {
			u.Signed.Votes[2].Seal.S++
		}
		checkDoubt(t, "several", c, u, far, a.now, want)
	}
	checkDoubt(t, "nothing at all", c, api.Update{}, far, 14, api.ErrName)
}

// G2: all that Check says comes first, even where From is not known.
func TestWhatCheckSays(t *testing.T) {
	own := members("u1", "v1", "w1")
	c := knowing(20, block{height: 3, time: 10, next: own}.known())
	good := block{chain: "b", height: 4, time: 14, own: own, next: own}.from(t, 3)
	far := block{chain: "b", height: 5, time: 14, own: own, next: own}.from(t, 3, own.vals...)
	for _, one := range []struct {
		want   api.Errno
		change func(s *api.Signed)
	}{
		{api.ErrName, func(s *api.Signed) { s.Header.Chain = "B" }},
		{api.ErrRange, func(s *api.Signed) { s.Header.Height = 0 }},
		{api.ErrRange, func(s *api.Signed) { s.Header.Time = -1 }},
		{api.ErrForm, func(s *api.Signed) { s.Header.Root = nil }},
		{api.ErrForm, func(s *api.Signed) { s.Header.Next = s.Header.Next[:31] }},
		{api.ErrMany, func(s *api.Signed) { s.Vals = nil }},
		{api.ErrFit, func(s *api.Signed) { s.Header.Vals[0]++ }},
		{api.ErrFit, func(s *api.Signed) { s.Votes = s.Votes[:2] }},
		{api.ErrSeal, func(s *api.Signed) { s.Votes[0] = api.Vote{} }},
		{api.ErrSeal, func(s *api.Signed) { s.Header.Root[7]++ }},
	} {
		for _, from := range []int{3, 2, 4} {
			u := deepCopyUpdate(good)
			u.From = from
			one.change(&u.Signed)
			checkDoubt(t, "spoilt", c, u, far, 14, one.want)
		}
	}
}

// G2: what is known is From alone, and From's age is what counts.
func TestFromIsKnown(t *testing.T) {
	own := members("u1", "v1", "w1")
	at := func(height, time int) block {
		return block{chain: "b", height: height, time: time, own: own, next: own}
	}
	c := knowing(10, at(3, 10).known(), at(5, 15).known(), at(9, 18).known())
	far := at(50, 20).from(t, 9, own.vals...)
	for from := -1; from < 12; from++ {
		want := api.ErrNone
		if slices.Contains([]int{3, 5, 9}, from) {
			want = api.OK
		}
		checkDoubt(t, "a height", c, at(20, 20).from(t, from, own.vals...), far, 18, want)
	}
	for _, from := range []int{math.MinInt, 20, api.MaxNum, math.MaxInt} {
		checkDoubt(t, "no height", c, at(20, 20).from(t, from, own.vals...), far, 18, api.ErrNone)
	}
	for now, good := range map[int][3]bool{19: {true, true, true}, 20: {false, true, true}, 24: {false, true, true}, 25: {false, false, true}, 27: {false, false, true}, 28: {}, 29: {}, api.MaxNum: {}} {
		for i, from := range []int{3, 5, 9} {
			want := api.ErrTime
			if good[i] {
				want = api.OK
			}
			checkDoubt(t, "an age", c, at(20, 20).from(t, from, own.vals...), far, now, want)
		}
	}
}

// G2: a later block alone, and none that is too far ahead.
func TestHeightsAndTimesOfUpdates(t *testing.T) {
	own := members("u1", "v1", "w1")
	at := func(height, time int) api.Update {
		return block{chain: "b", height: height, time: time, own: own, next: own}.from(t, 5, own.vals...)
	}
	c := knowing(100, block{height: 5, time: 10, next: own}.known())
	far := at(50, 11)
	for height, want := range map[int]api.Errno{1: api.ErrRange, 4: api.ErrRange, 5: api.ErrRange, 6: api.OK, 7: api.OK, api.MaxNum: api.OK} {
		checkDoubt(t, "a height", c, at(height, 12), far, 12, want)
		time := 9
		if want == api.OK {
			want = api.ErrTime
		}
		checkDoubt(t, "a height and a time", c, at(height, time), far, 12, want)
	}
	for _, height := range []int{6, 7} {
		for time, want := range map[int]api.Errno{0: api.ErrTime, 9: api.ErrTime, 10: api.ErrTime, 11: api.OK, 30: api.OK, 40: api.OK, 41: api.ErrTime, api.MaxNum: api.ErrTime} {
			checkDoubt(t, "a time", c, at(height, time), far, 30, want)
		}
		checkDoubt(t, "now is ahead of From, and just near enough", c, at(height, 11), far, 1, api.OK)
		checkDoubt(t, "now is ahead of From, and too far", c, at(height, 11), far, 0, api.ErrTime)
	}
	end := knowing(api.MaxNum, block{height: api.MaxNum - 1, time: api.MaxNum - 1, next: own}.known())
	last := block{chain: "b", height: api.MaxNum, time: api.MaxNum, own: own, next: own}.from(t, api.MaxNum-1)
	checkDoubt(t, "the last of all", end, last, far, api.MaxNum, api.OK)
}

// G2: the next block's validators are those that were told, and nobody else is asked.
func TestTheNextBlock(t *testing.T) {
	own, others := members("u1", "v1", "w1"), members("x1", "y1", "z1")
	c := knowing(20, block{height: 3, time: 10, next: own}.known())
	next := block{chain: "b", height: 4, time: 14, own: own, next: others}
	far := block{chain: "b", height: 9, time: 14, own: own, next: own}.from(t, 3, own.vals...)
	for _, trusted := range [][]api.Val{nil, own.vals, others.vals, {{}}, make([]api.Val, 100)} {
		checkDoubt(t, "its own", c, next.from(t, 3, trusted...), far, 14, api.OK)
		for _, wrong := range []team{others, members("u1", "v1", "w2"), members("u1", "v1"), members("u1", "v1", "w1", "x1")} {
			b := next
			b.own = wrong
			checkDoubt(t, "others", c, b.from(t, 3, trusted...), far, 14, api.ErrFit)
		}
	}
}

// G2: who leaps asks those that stand behind From for more than a third.
func TestLeaps(t *testing.T) {
	trusted := members("u1", "v1", "w1")
	c := knowing(20, block{height: 3, time: 10, root: 9, next: trusted}.known())
	leap := func(own team, l ...api.Val) api.Update {
		return block{chain: "b", height: 5, time: 14, own: own, next: own}.from(t, 3, l...)
	}
	far := block{chain: "b", height: 9, time: 14, own: trusted, next: trusted}.from(t, 3, trusted.vals...)
	checkDoubt(t, "the same", c, leap(trusted, trusted.vals...), far, 14, api.OK)
	checkDoubt(t, "two of three", c, leap(members("u1", "v1", "x9"), trusted.vals...), far, 14, api.OK)
	checkDoubt(t, "two of three, with other powers", c, leap(members("u1", "v1", "x1", "y1", "z1"), trusted.vals...), far, 14, api.OK)
	checkDoubt(t, "one of three", c, leap(members("u1", "x1", "y1"), trusted.vals...), far, 14, api.ErrSeal)
	checkDoubt(t, "one of three, with much power now", c, leap(members("x1", "u9"), trusted.vals...), far, 14, api.ErrSeal)
	checkDoubt(t, "none", c, leap(members("x1", "y1", "z1"), trusted.vals...), far, 14, api.ErrSeal)

	silent := leap(members("u1", "v1", "x9"), trusted.vals...)
	for i, v := range silent.Signed.Vals {
		if v.Power == 1 {
			silent.Signed.Votes[i] = api.Vote{}
		}
	}
	checkDoubt(t, "two of three who don't vote", c, silent, far, 14, api.ErrSeal)

	strong := members("u4", "v2", "w3")
	heavy := knowing(20, block{height: 3, time: 10, next: strong}.known())
	heavyFar := block{chain: "b", height: 9, time: 14, own: strong, next: strong}.from(t, 3, strong.vals...)
	checkDoubt(t, "one of great power", heavy, leap(members("u4", "x1"), strong.vals...), heavyFar, 14, api.OK)
	checkDoubt(t, "just a third", heavy, leap(members("w3", "x1"), strong.vals...), heavyFar, 14, api.ErrSeal)

	checkDoubt(t, "nobody is trusted", c, leap(trusted), far, 14, api.ErrMany)
	checkDoubt(t, "too many are trusted", c, leap(trusted, make([]api.Val, 11)...), far, 14, api.ErrMany)
	checkDoubt(t, "without power", c, leap(trusted, api.Val{Key: 1}), far, 14, api.ErrRange)
	turned := []api.Val{trusted.vals[1], trusted.vals[0], trusted.vals[2]}
	checkDoubt(t, "turned", c, leap(trusted, turned...), far, 14, api.ErrForm)
	for _, l := range [][]api.Val{members("u1", "v1").vals, members("u1", "v1", "w2").vals, members("x1", "y1", "z1").vals} {
		checkDoubt(t, "others are trusted", c, leap(members("u1", "v1", "w1", "x1"), l...), far, 14, api.ErrFit)
	}
}

// G3: the client's own errors come first, in their order, whatever else is wrong.
func TestWhatKeepsClientsFromFollowing(t *testing.T) {
	own := members("u1", "v1", "w1")
	good := knowing(20, block{height: 3, time: 10, next: own}.known())
	u := block{chain: "b", height: 4, time: 14, own: own, next: own}.from(t, 3)
	v := block{chain: "b", height: 4, time: 13, own: own, next: own}.from(t, 3)
	for i := range 16 {
		c, now, want := deepCopy(good), 14, api.OK
		a, b := u, v
		if i&1 > 0 {
			a, b, want = api.Update{}, api.Update{}, api.ErrName
		}
		if i&2 > 0 {
			c.Frozen, want = true, api.ErrState
		}
		if i&4 > 0 {
			now, want = -1, api.ErrRange
		}
		if i&8 > 0 {
			c.Known, want = nil, api.ErrMany
		}
		if _, err := Follow(c, a, now); err != want {
			t.Errorf("%d: %d comes, not %d", i, err, want)
		}
		checkCatch(t, "several", c, a, b, now, want)
		if want != api.OK {
			checkFollow(t, "several", c, a, now, api.Client{}, want)
		}
	}
	for _, now := range []int{math.MinInt, -1, api.MaxNum + 1, math.MaxInt} {
		checkFollow(t, "a time that is none", good, u, now, api.Client{}, api.ErrRange)
		checkCatch(t, "a time that is none", good, u, v, now, api.ErrRange)
	}
	checkFollow(t, "the last time", good, u, api.MaxNum, api.Client{}, api.ErrTime)
	checkFollow(t, "the first time", good, u, 0, api.Client{}, api.ErrTime)
}

// G3: ahead of those that are known, between them, behind them.
func TestFollowLearns(t *testing.T) {
	own := members("u1", "v1", "w1")
	at := func(height int) block {
		return block{chain: "b", height: height, time: 10 * height, root: byte(height), own: own, next: members("x1", "u1", "v"+string(rune('0'+height%10)))}
	}
	first := at(2).known()
	first.Next = own.digest()
	c := knowing(1000, first, at(5).known(), at(8).known())
	for _, height := range []int{3, 4, 6, 7, 9, 20} {
		want := deepCopy(c)
		want.Known = append(want.Known, at(height).known())
		slices.SortFunc(want.Known, func(a, b api.Known) int { return a.Height - b.Height })
		checkFollow(t, "a block more", c, at(height).from(t, 2, own.vals...), 300, want, api.OK)
	}
}

// G3: what is known comes again, or another one in its place.
func TestFollowOfAKnownHeight(t *testing.T) {
	own, others := members("u1", "v1", "w1"), members("u1", "v1", "w2")
	at := func(height int) block {
		return block{chain: "b", height: height, time: 10 * height, root: byte(height), own: own, next: own}
	}
	c := knowing(1000, at(2).known(), at(3).known(), at(5).known(), at(8).known())
	frozen := deepCopy(c)
	frozen.Frozen = true
	for _, height := range []int{3, 5, 8} {
		checkFollow(t, "the same", c, at(height).from(t, 2, own.vals...), 100, c, api.OK)
		for name, change := range map[string]func(b *block){
			"another time": func(b *block) { b.time++ },
			"another root": func(b *block) { b.root++ },
			"others next":  func(b *block) { b.next = others },
			"all of it":    func(b *block) { b.time, b.root, b.next = b.time-1, 99, others },
		} {
			b := at(height)
			change(&b)
			checkFollow(t, name, c, b.from(t, 2, own.vals...), 100, frozen, api.OK)
		}
		// A client knows no validators of a block, and no votes: others there are nothing that it could tell.
		b := at(height)
		b.own = others
		if height > 3 {
			checkFollow(t, "other validators", c, b.from(t, 2, own.vals...), 100, c, api.OK)
		}
	}
}

// G3: heights rise, and so do times.
func TestTimesOfNeighbours(t *testing.T) {
	own := members("u1", "v1", "w1")
	at := func(height, time int) block {
		return block{chain: "b", height: height, time: time, root: 1, own: own, next: own}
	}
	c := knowing(1000, at(2, 20).known(), at(5, 50).known(), at(8, 80).known())
	frozen := deepCopy(c)
	frozen.Frozen = true
	for _, one := range []struct {
		height, time, place int
		good                bool
	}{
		{6, 49, 2, false}, {6, 50, 2, false}, {6, 51, 2, true}, {6, 79, 2, true}, {6, 80, 2, false}, {6, 81, 2, false},
		{7, 21, 2, false}, {7, 65, 2, true}, {7, 110, 2, false},
		{3, 21, 1, true}, {3, 49, 1, true}, {3, 50, 1, false}, {3, 51, 1, false}, {4, 85, 1, false},
		{9, 21, 3, false}, {9, 79, 3, false}, {9, 80, 3, false}, {9, 81, 3, true}, {9, 110, 3, true},
	} {
		want := frozen
		if one.good {
			want = deepCopy(c)
			want.Known = slices.Insert(want.Known, one.place, at(one.height, one.time).known())
		}
		checkFollow(t, "a time", c, at(one.height, one.time).from(t, 2, own.vals...), 100, want, api.OK)
	}
}

// G3: neighbours alone are asked, even where others that are known don't rise.
func TestTimesOfOthersMeanNothing(t *testing.T) {
	own := members("u1", "v1", "w1")
	at := func(height, time int) block {
		return block{chain: "b", height: height, time: time, root: 1, own: own, next: own}
	}
	c := knowing(1000, at(2, 20).known(), at(3, 90).known(), at(5, 30).known(), at(7, 40).known(), at(8, 25).known())
	want := deepCopy(c)
	want.Known = slices.Insert(want.Known, 3, at(6, 35).known())
	checkFollow(t, "between", c, at(6, 35).from(t, 2, own.vals...), 100, want, api.OK)
	want = deepCopy(c)
	want.Known = append(want.Known, at(9, 26).known())
	checkFollow(t, "behind", c, at(9, 26).from(t, 2, own.vals...), 100, want, api.OK)
	frozen := deepCopy(c)
	frozen.Frozen = true
	checkFollow(t, "between those that fall", c, at(4, 60).from(t, 2, own.vals...), 100, frozen, api.OK)
}

// G3: of more than MaxKnown the lowest one goes, though it were From.
func TestFollowForgets(t *testing.T) {
	own := members("u1", "v1", "w1")
	at := func(height int) block {
		return block{chain: "b", height: height, time: 10 * height, root: byte(height), own: own, next: own}
	}
	for _, n := range []int{28, 29, 30} {
		c := knowing(api.MaxNum)
		for i := range n {
			c.Known = append(c.Known, at(2*i+2).known())
		}
		for _, height := range []int{3, 5, 31, 2*n - 1, 2*n + 1, 2*n + 2, 200} {
			want := deepCopy(c)
			want.Known = append(want.Known, at(height).known())
			slices.SortFunc(want.Known, func(a, b api.Known) int { return a.Height - b.Height })
			want.Known = want.Known[max(0, n-29):]
			checkFollow(t, "a block more", c, at(height).from(t, 2, own.vals...), 3000, want, api.OK)
			if len(want.Known) > api.MaxKnown || n == 30 && want.Known[0].Height == 2 {
				t.Error("nothing is forgotten")
			}
		}
		checkFollow(t, "a known one", c, at(2*n).from(t, 2, own.vals...), 3000, c, api.OK)
		b := at(2 * n)
		b.root++
		frozen := deepCopy(c)
		frozen.Frozen = true
		checkFollow(t, "another one", c, b.from(t, 2, own.vals...), 3000, frozen, api.OK)
		b = at(7)
		b.time = 100
		checkFollow(t, "one too late", c, b.from(t, 2, own.vals...), 3000, frozen, api.OK)
		checkCatch(t, "two", c, at(7).from(t, 2, own.vals...), b.from(t, 2, own.vals...), 3000, api.OK)
	}
}

// G3: two headers of one height, whatever is another in them.
func TestCatch(t *testing.T) {
	own, others := members("u1", "v1", "w1"), members("u1", "v1", "x1")
	good := block{chain: "b", height: 6, time: 60, root: 6, own: own, next: own}
	at := func(height int) block {
		return block{chain: "b", height: height, time: 10 * height, root: byte(height), own: own, next: own}
	}
	for _, c := range []api.Client{
		knowing(1000, at(2).known(), at(3).known()),
		knowing(1000, at(2).known(), at(3).known(), at(6).known(), at(8).known()),
	} {
		a := good.from(t, 2, own.vals...)
		checkCatch(t, "the same", c, a, a, 100, api.ErrFit)
		checkCatch(t, "the same, from another one", c, a, good.from(t, 3, own.vals...), 100, api.ErrFit)
		for name, change := range map[string]func(b *block){
			"another time":     func(b *block) { b.time++ },
			"another root":     func(b *block) { b.root++ },
			"others next":      func(b *block) { b.next = others },
			"other validators": func(b *block) { b.own = others },
		} {
			b := good
			change(&b)
			for _, from := range []int{2, 3} {
				checkCatch(t, name, c, a, b.from(t, from, own.vals...), 100, api.OK)
				checkCatch(t, name+", turned", c, b.from(t, from, own.vals...), a, 100, api.OK)
			}
			b.height = 7
			checkCatch(t, name+", another height", c, a, b.from(t, 2, own.vals...), 100, api.ErrFit)
		}
		b := good
		b.height++
		checkCatch(t, "another height", c, a, b.from(t, 2, own.vals...), 100, api.ErrFit)
	}
}

// G3: the same header with other votes is the same header.
func TestCatchOfOtherVotes(t *testing.T) {
	own := members("u1", "v1", "w1", "x1")
	c := knowing(100, block{height: 2, time: 20, next: own}.known())
	a := block{chain: "b", height: 3, time: 30, own: own, next: own}.from(t, 2)
	b := deepCopyUpdate(a)
	b.Signed.Votes[1] = api.Vote{}
	b.Trusted = own.vals
	if header.Check(b.Signed) != api.OK {
		t.Fatal("too few votes")
	}
	checkCatch(t, "other votes", c, a, b, 30, api.ErrFit)
	checkCatch(t, "other votes, turned", c, b, a, 30, api.ErrFit)
}

// G3: a's error, then b's, then whether they go together.
func TestErrorsOfCatch(t *testing.T) {
	own, others := members("u1", "v1", "w1"), members("x1", "y1", "z1")
	c := knowing(100, block{height: 2, time: 20, next: own}.known())
	good := block{chain: "b", height: 3, time: 30, own: own, next: own}
	second := good
	second.root++
	none, alien, early := good, good, good
	alien.own, early.time = others, 20
	higher := good
	higher.height = 5
	updates := []struct {
		u    api.Update
		want api.Errno
	}{
		{good.from(t, 2), api.OK}, {second.from(t, 2), api.OK}, {none.from(t, 1), api.ErrNone},
		{alien.from(t, 2), api.ErrFit}, {early.from(t, 2), api.ErrTime}, {higher.from(t, 2), api.ErrMany}, {api.Update{}, api.ErrName},
	}
	for i, a := range updates {
		for k, b := range updates {
			want := a.want
			if want == api.OK {
				want = b.want
			}
			if want == api.OK && i == k {
				want = api.ErrFit
			}
			checkCatch(t, "two", c, a.u, b.u, 30, want)
		}
	}
}

// truth is an honest chain's blocks: validators change one by one.
func truth(n int) []block {
	names := []string{"m1", "n1", "o1", "p1", "q1", "r1", "s1", "t1"}
	at := func(i int) team { return members(names[i/3%8], names[(i/3+1)%8], names[(i/3+2)%8], names[(i/3+3)%8]) }
	var out []block
	for i := range n {
		out = append(out, block{chain: "b", height: i + 1, time: 3 * (i + 1), root: byte(i), own: at(i), next: at(i + 1)})
	}
	return out
}

// G2 and G3: who follows truly knows the truth, in whatever order it is told.
func TestWhoFollowsTruly(t *testing.T) {
	r := rand.New(rand.NewSource(7))
	chain := truth(80)
	for range 20 {
		start := r.Intn(20)
		c, err := New("b", 1000, chain[start].known())
		if err != api.OK {
			t.Fatal(err)
		}
		learnt := 0
		for range 120 {
			from := c.Known[r.Intn(len(c.Known))].Height
			to := min(79, from+r.Intn(8))
			u := chain[to].from(t, from, chain[from-1].next.vals...)
			next, err := Follow(c, u, 250)
			want, wantErr := referenceFollow(c, u, 250)
			if err != wantErr || !sameClient(next, want) {
				t.Fatalf("from %d to %d: %v and %d come", from, to+1, next, err)
			}
			if err != api.OK {
				continue
			}
			learnt++
			c = next
			if c.Frozen || Wrong(c) != api.OK {
				t.Fatalf("from %d to %d: it is frozen, or wrong", from, to+1)
			}
			for _, k := range c.Known {
				if !sameKnown(k, chain[k.Height-1].known()) {
					t.Fatalf("%d is known otherwise", k.Height)
				}
			}
		}
		if learnt < 40 || len(c.Known) < 20 {
			t.Errorf("only %d were believed, and %d are known", learnt, len(c.Known))
		}
	}
}

// G3: whatever it is told, a client is never wrong, and one that is frozen stays so.
func TestFollowByChance(t *testing.T) {
	r := rand.New(rand.NewSource(8))
	teams := []team{members("u1", "v1", "w1"), members("u1", "v1", "x1"), members("x1", "y1", "z1")}
	seen := map[string]int{}
	for range 60 {
		c := knowing(1+r.Intn(40), block{height: 1 + r.Intn(3), time: r.Intn(5), next: teams[0]}.known())
		var believed []api.Update
		for range 60 {
			b := block{chain: "b", height: 1 + r.Intn(12), time: r.Intn(25), root: byte(r.Intn(2)), own: teams[r.Intn(8)/3], next: teams[r.Intn(4)/3]}
			from := c.Known[r.Intn(len(c.Known))].Height
			u := b.from(t, from, teams[r.Intn(4)/3].vals...)
			if len(believed) > 0 && r.Intn(4) == 0 {
				u = believed[r.Intn(len(believed))]
			}
			now := r.Intn(25)
			next, err := Follow(c, u, now)
			want, wantErr := referenceFollow(c, u, now)
			if err != wantErr || !sameClient(next, want) {
				t.Fatalf("%v of %v at %d: %v and %d come", b, c, now, next, err)
			}
			b.root, b.time = b.root^byte(r.Intn(2)), r.Intn(25)
			b.height = u.Signed.Header.Height
			other := b.from(t, u.From, u.Trusted...)
			caught, err2 := Catch(c, u, other, now)
			wantCaught, wantErr := referenceCatch(c, u, other, now)
			if err2 != wantErr || !sameClient(caught, wantCaught) {
				t.Fatalf("%v of %v at %d: %v and %d come", b, c, now, caught, err2)
			}
			if err2 == api.OK {
				seen["caught"]++
			}
			switch {
			case err != api.OK:
				seen["error"]++
				continue
			case next.Frozen:
				seen["frozen"]++
				if _, err := Follow(next, u, now); err != api.ErrState {
					t.Fatalf("%d comes of a frozen one", err)
				}
				continue
			case len(next.Known) > len(c.Known):
				seen["learnt"]++
			default:
				seen["known"]++
			}
			if Wrong(next) != api.OK {
				t.Fatalf("%v is wrong", next)
			}
			c, believed = next, append(believed, u)
		}
	}
	for _, name := range []string{"error", "frozen", "learnt", "known", "caught"} {
		if seen[name] < 10 {
			t.Errorf("%v came", seen)
		}
	}
}
