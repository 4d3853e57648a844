package header

import (
	"bytes"
	"math"
	"math/rand"
	"slices"
	"strings"
	"sync"
	"testing"

	"landbridge/api"
	"landbridge/seal"
)

func checkSignErr(t *testing.T, name string, h api.Header, vals []api.Val, seeds [][]byte, want api.Errno) {
	t.Helper()
	s, err := Sign(h, vals, seeds)
	if err != want {
		t.Errorf("%s: %d comes, not %d", name, err, want)
	}
	if want != api.OK && !sameSigned(s, api.Signed{}) {
		t.Errorf("%s: %v comes beside an error", name, s)
	}
}

func checkCheck(t *testing.T, name string, s api.Signed, want api.Errno) {
	t.Helper()
	if got := Check(s); got != want {
		t.Errorf("%s: %d comes, not %d", name, got, want)
	}
	if want != referenceCheck(s) {
		t.Errorf("%s: the reference answers otherwise", name)
	}
}

func checkOverlap(t *testing.T, name string, trusted []api.Val, s api.Signed, want bool) {
	t.Helper()
	if Vals(trusted) != api.OK || Check(s) != api.OK {
		t.Fatalf("%s: nothing is promised of these", name)
	}
	if Overlap(trusted, s) != want {
		t.Errorf("%s: %v doesn't come", name, want)
	}
	if want != referenceOverlap(trusted, s) {
		t.Errorf("%s: the reference answers otherwise", name)
	}
}

// F2: each vote stands at its validator's place, whoever else votes.
func TestWhoHasASeedVotes(t *testing.T) {
	vals, seeds := seeded(3, 1, 4, 1, 5)
	h := headerOf(vals)
	for set := range 1 << len(vals) {
		want := api.Signed{Header: h, Vals: vals}
		var some [][]byte
		for i, seed := range seeds {
			var vote api.Vote
			if set>>i&1 == 1 {
				some = append([][]byte{seed}, some...)
				vote = api.Vote{Is: true, Seal: seal.Sign(seed, referenceBytes(h))}
			}
			want.Votes = append(want.Votes, vote)
		}
		got, err := Sign(h, vals, some)
		if err != api.OK || !sameSigned(got, want) {
			t.Errorf("set %b: %v and %d come", set, got.Votes, err)
		}
		more := slices.Concat([][]byte{nil, []byte("stranger")}, some, [][]byte{[]byte("another")}, some)
		if got, _ = Sign(h, vals, more); !sameSigned(got, want) {
			t.Errorf("set %b, with strangers and each one twice: %v comes", set, got.Votes)
		}
	}
}

// F2: reckoned by other hands.
func TestAKnownVote(t *testing.T) {
	vals := []api.Val{{Key: 388484325938516318, Power: 2}, {Key: 416620009211762658, Power: 1}, {Key: 482161054897437987, Power: 4}, {Key: 1068375437539872586, Power: 3}}
	root, next := make([]byte, 32), make([]byte, 32)
	root[0], next[0] = 1, 2
	h := api.Header{Chain: "abc1", Height: 5, Time: 7, Root: root, Vals: Digest(vals), Next: next}
	s, err := Sign(h, vals, [][]byte{[]byte("x"), []byte("y"), []byte("z")})
	want := []api.Vote{
		{Is: true, Seal: api.Seal{R: 228828794518207640, S: 520123039254329303}},
		{Is: true, Seal: api.Seal{R: 288540836580761835, S: 33299704302486809}},
		{},
		{Is: true, Seal: api.Seal{R: 1116527681003421357, S: 365970240332135238}},
	}
	if err != api.OK || !slices.Equal(s.Votes, want) {
		t.Errorf("%v and %d come", s.Votes, err)
	}
}

// F2: the header's errors, then the validators', then whether they go together; seeds have none.
func TestErrorsOfSign(t *testing.T) {
	vals, seeds := seeded(1, 1, 1)
	good := headerOf(vals)
	checkSignErr(t, "as it should be", good, vals, seeds, api.OK)
	checkSignErr(t, "without seeds", good, vals, nil, api.OK)

	noName, noHeight, noRoot, noVals := good, good, good, good
	noName.Chain, noHeight.Height, noRoot.Root, noVals.Vals = "A", 0, nil, nil
	turned := []api.Val{vals[1], vals[0]}
	weak := []api.Val{{Key: 1}}
	for _, l := range [][]api.Val{vals, vals[:2], turned, weak, nil} {
		checkSignErr(t, "no name", noName, l, seeds, api.ErrName)
		checkSignErr(t, "no height", noHeight, l, seeds, api.ErrRange)
		checkSignErr(t, "no root", noRoot, l, seeds, api.ErrForm)
		checkSignErr(t, "no digest of validators", noVals, l, seeds, api.ErrForm)
	}

	for name, l := range map[string][]api.Val{"of its own": nil, "another one": vals} {
		of := func(own []api.Val) api.Header {
			if l == nil {
				return headerOf(own)
			}
			return headerOf(l)
		}
		checkSignErr(t, name+", nobody", of(nil), nil, seeds, api.ErrMany)
		checkSignErr(t, name+", too many", of(rising(11)), rising(11), seeds, api.ErrMany)
		checkSignErr(t, name+", without power", of(weak), weak, seeds, api.ErrRange)
		checkSignErr(t, name+", turned", of(turned), turned, seeds, api.ErrForm)
	}

	other := slices.Clone(vals)
	other[2].Power++
	checkSignErr(t, "another power", good, other, seeds, api.ErrFit)
	checkSignErr(t, "one less", good, vals[:2], seeds, api.ErrFit)
	checkSignErr(t, "others", good, rising(3), seeds, api.ErrFit)
	for i := range good.Vals {
		h := headerOf(vals)
		h.Vals[i] ^= 0x10
		checkSignErr(t, "another digest", h, vals, seeds, api.ErrFit)
	}
	exchanged := headerOf(vals)
	exchanged.Vals, exchanged.Next = exchanged.Next, exchanged.Vals
	checkSignErr(t, "as the next ones alone", exchanged, vals, seeds, api.ErrFit)
}

// F2: a key that no seed has is a validator's as well.
func TestKeysWithoutASeed(t *testing.T) {
	vals := []api.Val{{Key: 0, Power: 1}, {Key: 7, Power: 1}, {Key: math.MaxUint64, Power: 1}}
	s, err := Sign(headerOf(vals), vals, [][]byte{nil, []byte("a"), {0}})
	if err != api.OK || !slices.Equal(s.Votes, make([]api.Vote, 3)) {
		t.Errorf("%v and %d come", s.Votes, err)
	}
}

// F3: more than two thirds, by power; just two thirds are too few.
func TestMajorities(t *testing.T) {
	for _, c := range []struct {
		powers []uint64
		places []int
		want   api.Errno
	}{
		{[]uint64{1}, []int{0}, api.OK},
		{[]uint64{1}, nil, api.ErrSeal},
		{[]uint64{1, 1}, []int{0}, api.ErrSeal},
		{[]uint64{1, 1}, []int{0, 1}, api.OK},
		{[]uint64{1, 1, 1}, []int{0, 1}, api.ErrSeal},
		{[]uint64{1, 1, 1}, []int{0, 1, 2}, api.OK},
		{[]uint64{1, 1, 1, 1}, []int{0, 1, 3}, api.OK},
		{[]uint64{2, 1}, []int{0}, api.ErrSeal},
		{[]uint64{3, 1}, []int{0}, api.OK},
		{[]uint64{1, 3}, []int{1}, api.OK},
		{[]uint64{1, 1, 1, 1, 1, 1, 1, 1, 1, 50}, []int{9}, api.OK},
		{[]uint64{1, 1, 1, 1, 1, 1, 1, 1, 1, 50}, []int{0, 1, 2, 3, 4, 5, 6, 7, 8}, api.ErrSeal},
		{[]uint64{999999, 500000, 499999}, []int{0}, api.ErrSeal},
		{[]uint64{1000000, 500000}, []int{0}, api.ErrSeal},
		{[]uint64{1000000, 499999}, []int{0}, api.OK},
		{[]uint64{1000000, 500001}, []int{0}, api.ErrSeal},
		{[]uint64{1000000, 1000000, 1000000, 1000000, 1000000, 1000000, 1000000, 1000000, 1000000, 1000000}, []int{0, 1, 2, 3, 4, 5}, api.ErrSeal},
		{[]uint64{1000000, 1000000, 1000000, 1000000, 1000000, 1000000, 1000000, 1000000, 1000000, 1000000}, []int{3, 4, 5, 6, 7, 8, 9}, api.OK},
	} {
		vals, seeds := seeded(c.powers...)
		s := signedBy(t, vals, seeds, c.places...)
		got := Check(s)
		if got != c.want || got != referenceCheck(s) {
			t.Errorf("%v of %v: %d comes, not %d", c.places, c.powers, got, c.want)
		}
	}
}

// F3: whatever is signed and then changed, all votes are of something else.
func TestVotesAreForAllOfTheHeader(t *testing.T) {
	vals, seeds := seeded(1, 2, 3)
	good := signedBy(t, vals, seeds, 0, 1, 2)
	checkCheck(t, "as it was signed", good, api.OK)
	for name, change := range map[string]func(h *api.Header){
		"another chain":    func(h *api.Header) { h.Chain = "abc2" },
		"a longer name":    func(h *api.Header) { h.Chain += "x" },
		"the next height":  func(h *api.Header) { h.Height++ },
		"a later time":     func(h *api.Header) { h.Time++ },
		"turned":           func(h *api.Header) { h.Height, h.Time = h.Time, h.Height },
		"another root":     func(h *api.Header) { h.Root[31]++ },
		"others next":      func(h *api.Header) { h.Next[0]++ },
		"root and next":    func(h *api.Header) { h.Root, h.Next = h.Next, h.Root },
		"the next as root": func(h *api.Header) { h.Root = bytes.Clone(h.Next) },
	} {
		s := deepCopy(good)
		change(&s.Header)
		checkCheck(t, name, s, api.ErrSeal)
	}
}

// F3: one vote that is not good is too much, however many are; who did not vote has no seal that could be wrong.
func TestEachVoteIsGood(t *testing.T) {
	vals, seeds := seeded(1, 1, 100, 1)
	all := signedBy(t, vals, seeds, 0, 1, 2, 3)
	for i := range vals {
		for name, bad := range map[string]api.Seal{
			"no seal":         {},
			"another R":       {R: all.Votes[i].Seal.R + 1, S: all.Votes[i].Seal.S},
			"another S":       {R: all.Votes[i].Seal.R, S: all.Votes[i].Seal.S + 1},
			"S and a turn":    {R: all.Votes[i].Seal.R, S: all.Votes[i].Seal.S + api.Order},
			"of another one":  all.Votes[(i+1)%4].Seal,
			"of another text": seal.Sign(seeds[i], []byte("m")),
			"of the digest":   seal.Sign(seeds[i], all.Header.Vals),
		} {
			s := deepCopy(all)
			s.Votes[i].Seal = bad
			checkCheck(t, name, s, api.ErrSeal)
			s.Votes[i].Is = false
			want := api.OK
			if i == 2 {
				want = api.ErrSeal
			}
			checkCheck(t, name+", without Is", s, want)
		}
	}
}

// F3: a seal without Is counts for nothing, good as it may be.
func TestAVoteWithoutIsHasNoPower(t *testing.T) {
	vals, seeds := seeded(1, 1, 1)
	s := signedBy(t, vals, seeds, 0, 1, 2)
	s.Votes[1].Is = false
	checkCheck(t, "two of three", s, api.ErrSeal)
}

// F3: a validator whose key is none of a seal can't vote.
func TestAKeyThatIsNone(t *testing.T) {
	for _, key := range []uint64{0, api.Prime, math.MaxUint64} {
		vals := []api.Val{{Key: key, Power: 1}}
		s := api.Signed{Header: headerOf(vals), Vals: vals, Votes: []api.Vote{{Is: true, Seal: api.Seal{R: 1}}}}
		checkCheck(t, "such a key", s, api.ErrSeal)
	}
	vals := []api.Val{{Key: 1, Power: 1}}
	s := api.Signed{Header: headerOf(vals), Vals: vals, Votes: []api.Vote{{Is: true, Seal: api.Seal{R: 1}}}}
	checkCheck(t, "key 1, whose seals all can make", s, api.OK)
}

// F3: the header's errors, the validators', what doesn't go together, the seals'.
func TestErrorsOfCheck(t *testing.T) {
	vals, seeds := seeded(1, 1, 1)
	good := signedBy(t, vals, seeds, 0, 1, 2)
	checkCheck(t, "nothing at all", api.Signed{}, api.ErrName)
	breaks := []struct {
		want   api.Errno
		change func(s *api.Signed)
	}{
		{api.ErrSeal, func(s *api.Signed) { s.Votes[0].Seal.S++ }},
		{api.ErrFit, func(s *api.Signed) { s.Votes = s.Votes[:2] }},
		{api.ErrFit, func(s *api.Signed) { s.Header.Vals[5]++ }},
		{api.ErrForm, func(s *api.Signed) { s.Vals[0], s.Vals[1] = s.Vals[1], s.Vals[0] }},
		{api.ErrRange, func(s *api.Signed) { s.Vals[0].Power = 0 }},
		{api.ErrMany, func(s *api.Signed) { s.Vals = nil }},
		{api.ErrForm, func(s *api.Signed) { s.Header.Next = nil }},
		{api.ErrRange, func(s *api.Signed) { s.Header.Time = api.MaxNum + 1 }},
		{api.ErrName, func(s *api.Signed) { s.Header.Chain = "a b" }},
	}
	for set := range 1 << len(breaks) {
		s, want := deepCopy(good), api.OK
		for i, b := range breaks {
			if set>>i&1 == 1 {
				b.change(&s)
				want = b.want
			}
		}
		checkCheck(t, "several", s, want)
	}
}

// F3: as many votes as validators.
func TestHowManyVotes(t *testing.T) {
	vals, seeds := seeded(1, 1, 1)
	good := signedBy(t, vals, seeds, 0, 1, 2)
	for n := range 6 {
		s := deepCopy(good)
		s.Votes = append(s.Votes, make([]api.Vote, 3)...)[:n]
		want := api.ErrFit
		if n == 3 {
			want = api.OK
		}
		checkCheck(t, "so many votes", s, want)
	}
	s := deepCopy(good)
	s.Votes = nil
	checkCheck(t, "no votes", s, api.ErrFit)
}

// F3: votes are for the validators that the header tells.
func TestOtherValidators(t *testing.T) {
	vals, seeds := seeded(1, 1, 1)
	s := signedBy(t, vals, seeds, 0, 1, 2)
	for i := range vals {
		other := deepCopy(s)
		other.Vals[i].Power++
		checkCheck(t, "another power", other, api.ErrFit)
	}
	less := deepCopy(s)
	less.Vals, less.Votes = less.Vals[:2], less.Votes[:2]
	checkCheck(t, "one less", less, api.ErrFit)
	less.Header.Vals = referenceDigest(less.Vals)
	checkCheck(t, "one less, and told", less, api.ErrSeal)
}

// F3: more than a third, by power; just a third is too little.
func TestOverlaps(t *testing.T) {
	vals, seeds := seeded(1, 1, 1, 10)
	s := signedBy(t, vals, seeds, 0, 1, 3)
	all := signedBy(t, vals, seeds, 0, 1, 2, 3)
	trust := func(powers ...uint64) []api.Val {
		var out []api.Val
		for i, p := range powers {
			if p > 0 {
				out = append(out, api.Val{Key: vals[i].Key, Power: p})
			}
		}
		return out
	}
	checkOverlap(t, "its own", vals, s, true)
	checkOverlap(t, "one who voted", trust(5), s, true)
	checkOverlap(t, "one who did not", trust(0, 0, 5), s, false)
	checkOverlap(t, "one who did not, but does", trust(0, 0, 5), all, true)
	checkOverlap(t, "a third", trust(1, 0, 2), s, false)
	checkOverlap(t, "more than a third", trust(2, 0, 3), s, true)
	checkOverlap(t, "two of them, a third", trust(1, 1, 4), s, false)
	checkOverlap(t, "two of them, more", trust(1, 2, 5), s, true)
	checkOverlap(t, "great, a third", trust(250000, 250000, 1000000), s, false)
	checkOverlap(t, "great, more", trust(250000, 250001, 1000000), s, true)
	checkOverlap(t, "great, less", trust(250000, 249999, 1000000), s, false)
	checkOverlap(t, "great, all", trust(1000000, 1000000, 1000000, 1000000), s, true)
	checkOverlap(t, "powers as trusted tells", trust(1, 0, 1000000, 1), s, false)
	checkOverlap(t, "powers as trusted tells, the other way", trust(1000000, 0, 1, 0), s, true)
}

// F3: those whom s does not name don't vote, but have their power.
func TestStrangersOverlap(t *testing.T) {
	vals, seeds := seeded(1, 1, 1)
	s := signedBy(t, vals, seeds, 0, 1, 2)
	checkOverlap(t, "all strangers", rising(10), s, false)
	least, greatest := api.Val{Key: 0, Power: 2}, api.Val{Key: math.MaxUint64, Power: 2}
	checkOverlap(t, "a third, behind", []api.Val{vals[0], greatest}, s, false)
	checkOverlap(t, "a third, ahead", []api.Val{least, vals[2]}, s, false)
	checkOverlap(t, "a third, between", []api.Val{least, vals[1], vals[2], greatest}, s, false)
	checkOverlap(t, "more, between", []api.Val{least, vals[0], vals[1], vals[2], greatest}, s, true)
	beside := []api.Val{{Key: vals[0].Key - 1, Power: 1}, {Key: vals[0].Key + 1, Power: 1}, {Key: vals[1].Key + 1, Power: 1}}
	checkOverlap(t, "keys beside", beside, s, false)
}

// F3: trusted ones and those of s, any of each.
func TestOverlapsOfAll(t *testing.T) {
	r := rand.New(rand.NewSource(6))
	vals, seeds := seeded(1, 2, 3, 4, 5, 6, 7, 8, 9, 10)
	seen := map[bool]int{}
	for range 400 {
		s := signedBy(t, vals, seeds, 1, 3, 5, 6, 8, 9)
		for _, i := range []int{0, 2, 4, 7} {
			s.Votes[i].Is = r.Intn(3) == 0
			s.Votes[i].Seal = seal.Sign(seeds[i], Bytes(s.Header))
		}
		if Check(s) != api.OK {
			continue
		}
		var trusted []api.Val
		for i, v := range vals {
			if r.Intn(2) == 0 {
				trusted = append(trusted, api.Val{Key: v.Key - uint64(r.Intn(2)*(1+i)), Power: uint64(1 + r.Intn(5))})
			}
		}
		if Vals(trusted) != api.OK {
			continue
		}
		want := referenceOverlap(trusted, s)
		checkOverlap(t, "by chance", trusted, s, want)
		seen[want]++
	}
	if seen[true] < 30 || seen[false] < 30 {
		t.Errorf("%v came", seen)
	}
}

// F3: two majorities meet.
func TestWhatIsCheckedOverlapsItself(t *testing.T) {
	vals, seeds := seeded(1, 2, 3, 4)
	var checked []api.Signed
	for set := range 16 {
		var places []int
		for i := range 4 {
			if set>>i&1 == 1 {
				places = append(places, i)
			}
		}
		if s := signedBy(t, vals, seeds, places...); Check(s) == api.OK {
			checked = append(checked, s)
		}
	}
	if len(checked) < 3 {
		t.Fatalf("only %d are checked", len(checked))
	}
	for _, a := range checked {
		checkOverlap(t, "its own", vals, a, true)
		for _, b := range checked {
			if !slices.ContainsFunc([]int{0, 1, 2, 3}, func(i int) bool { return a.Votes[i].Is && b.Votes[i].Is }) {
				t.Errorf("%v and %v don't meet", a.Votes, b.Votes)
			}
		}
	}
}

// F3: nothing is promised of others, but that they are answered.
func TestOverlapOfAnything(t *testing.T) {
	long := make([]api.Val, 100000)
	lists := [][]api.Val{nil, rising(1), rising(3), {{Key: 3, Power: math.MaxUint64}, {Key: 1, Power: math.MaxUint64}}, long}
	for _, trusted := range lists {
		for _, l := range lists {
			for _, n := range []int{0, 1, 2, 5} {
				votes := make([]api.Vote, n)
				for i := range votes {
					votes[i].Is = true
				}
				Overlap(trusted, api.Signed{Vals: l, Votes: votes})
			}
		}
	}
}

// Z3
func TestNilAndEmptyAreTheSame(t *testing.T) {
	vals, _ := seeded(1, 1)
	h := headerOf(vals)
	a, errA := Sign(h, vals, nil)
	b, errB := Sign(h, vals, [][]byte{})
	if errA != errB || !sameSigned(a, b) {
		t.Error("no seeds and nil are not the same")
	}
	own := []api.Val{{Key: seal.Key(nil), Power: 1}}
	a, _ = Sign(headerOf(own), own, [][]byte{nil})
	b, _ = Sign(headerOf(own), own, [][]byte{{}})
	if !a.Votes[0].Is || !sameSigned(a, b) {
		t.Error("an empty seed and nil are not the same")
	}
	if Vals(nil) != Vals([]api.Val{}) || !bytes.Equal(Digest(nil), Digest([]api.Val{})) {
		t.Error("no validators and nil are not the same")
	}
	a.Votes, b.Votes = nil, []api.Vote{}
	if Check(a) != Check(b) || Overlap(nil, a) != Overlap([]api.Val{}, b) {
		t.Error("no votes and nil are not the same")
	}
}

// Z2: neither what is handed in nor the room behind it is changed, and that room means nothing.
func TestArgumentsAreOnlyRead(t *testing.T) {
	vals, seeds := seeded(1, 1, 1)
	h := headerOf(vals)
	want := signedBy(t, vals, seeds, 0, 1, 2)
	wantDigest, wantBytes := referenceDigest(vals), referenceBytes(h)

	stranger := api.Val{Key: 9, Power: 9}
	roomVals := append(slices.Clone(vals), stranger)
	roomSeeds := append(slices.Clone(seeds), []byte("behind"))
	room := slices.Concat(h.Root, h.Vals, h.Next, []byte("behind"))
	h.Root, h.Vals, h.Next = room[:32], room[32:64], room[64:96]
	roomBefore := bytes.Clone(room)

	s, err := Sign(h, roomVals[:3], roomSeeds[:3])
	if err != api.OK || !sameSigned(s, want) {
		t.Error("Sign: another answer")
	}
	if Vals(roomVals[:3]) != api.OK || Wrong(h) != api.OK || !bytes.Equal(Digest(roomVals[:3]), wantDigest) || !bytes.Equal(Bytes(h), wantBytes) {
		t.Error("Vals, Wrong, Digest or Bytes: another answer")
	}
	votes := append(slices.Clone(s.Votes), api.Vote{Is: true})
	given := api.Signed{Header: h, Vals: roomVals[:3], Votes: votes[:3]}
	if Check(given) != api.OK || !Overlap(roomVals[:3], given) || Overlap([]api.Val{stranger}, given) {
		t.Error("Check or Overlap: another answer")
	}
	same := bytes.Equal(room, roomBefore) && slices.Equal(roomVals[:3], vals) && roomVals[3] == stranger &&
		slices.EqualFunc(roomSeeds[:3], seeds, bytes.Equal) && string(roomSeeds[3]) == "behind" &&
		slices.Equal(votes[:3], want.Votes) && votes[3] == api.Vote{Is: true}
	if !same {
		t.Error("an argument or its spare room has changed")
	}
}

// Z2: answers share no memory with arguments, with other answers or with each other, spare room included.
func TestAnswersAreNewMemory(t *testing.T) {
	vals, seeds := seeded(1, 1, 1)
	h := headerOf(vals)
	// One memory for all three: an answer may not share even what its argument does.
	h.Root, h.Next = h.Vals, h.Vals
	first, _ := Sign(h, vals, seeds)
	second, _ := Sign(h, vals, seeds)
	want := deepCopy(second)

	for i, list := range [][]byte{first.Header.Root, first.Header.Vals, first.Header.Next} {
		list = list[:cap(list)]
		for at := range list {
			list[at] = byte(200 + i)
		}
	}
	for i, list := range [][]byte{first.Header.Root, first.Header.Vals, first.Header.Next} {
		if list[0] != byte(200+i) || list[31] != byte(200+i) {
			t.Errorf("digest %d shares memory with another one", i)
		}
	}
	clear(first.Vals[:cap(first.Vals)])
	clear(first.Votes[:cap(first.Votes)])
	d, b := Digest(vals), Bytes(h)
	clear(d[:cap(d)])
	clear(b[:cap(b)])
	if !sameSigned(second, want) || !bytes.Equal(h.Vals, want.Header.Vals) || !slices.Equal(vals, want.Vals) {
		t.Error("an answer is shared")
	}
	if again, _ := Sign(h, vals, seeds); !sameSigned(again, want) || !bytes.Equal(Digest(vals), want.Header.Vals) {
		t.Error("an answer is kept")
	}

	// Nothing of what was handed in is kept either.
	clear(h.Vals)
	clear(vals)
	clear(seeds)
	if !sameSigned(second, want) || Check(second) != api.OK {
		t.Error("an answer hangs on what was handed in")
	}
}

// Z1: calls that run side by side don't disturb each other.
func TestCallsSideBySide(t *testing.T) {
	vals, seeds := seeded(1, 2, 3, 4)
	h := headerOf(vals)
	want := signedBy(t, vals, seeds, 0, 1, 2, 3)
	var all sync.WaitGroup
	for range 8 {
		all.Go(func() {
			for range 20 {
				s, err := Sign(h, vals, seeds)
				if err != api.OK || !sameSigned(s, want) || Check(want) != api.OK || !Overlap(vals, want) {
					t.Error("another answer")
					return
				}
			}
		})
	}
	all.Wait()
}

// FuzzCheck takes a signed header that is good, and lays other things in its places.
func FuzzCheck(f *testing.F) {
	f.Add("abc1", 5, 7, 32, 32, byte(7), uint64(1), uint64(0), 3, 0)
	f.Add("", 0, -1, 31, 33, byte(3), uint64(0), uint64(1), 4, 2)
	f.Add(strings.Repeat("a", 21), api.MaxNum+1, api.MaxNum, 0, 32, byte(0), uint64(1000001), uint64(9), 2, 1)
	f.Fuzz(func(t *testing.T, chain string, height, time, root, next int, set byte, power, other uint64, votes, at int) {
		vals, seeds := seeded(1, 1, 1)
		place := uint(at) % 3
		vals[place].Power = power
		vals[place].Key += other
		h := headerOf(vals)
		h.Chain, h.Height, h.Time = chain, height, time
		h.Root, h.Next = filled(1, int(uint(root)%40)), filled(2, int(uint(next)%40))
		s, err := Sign(h, vals, seeds)
		want := referenceWrong(h)
		if want == api.OK {
			want = referenceVals(vals)
		}
		if err != want {
			t.Fatalf("Sign: %d comes, not %d", err, want)
		}
		if err != api.OK {
			s = api.Signed{Header: h, Vals: vals, Votes: make([]api.Vote, 3)}
		}
		for i := range s.Votes {
			s.Votes[i].Is = s.Votes[i].Is && set>>i&1 == 1
		}
		s.Votes = append(s.Votes, api.Vote{Is: true})[:uint(votes)%5]
		if got, want := Check(s), referenceCheck(s); got != want {
			t.Errorf("Check: %d comes, not %d", got, want)
		} else if want == api.OK && !Overlap(vals, s) {
			t.Error("what is checked doesn't overlap itself")
		}
		Overlap(vals, s)
	})
}
