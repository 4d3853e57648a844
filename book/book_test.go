package book

import (
	"bytes"
	"crypto/sha256"
	"encoding/binary"
	"encoding/hex"
	"maps"
	"math"
	"math/rand"
	"slices"
	"strconv"
	"strings"
	"sync"
	"testing"

	"landbridge/api"
)

func pair(key, val string) api.Pair { return api.Pair{Key: []byte(key), Val: []byte(val)} }

func put(key, val string) api.Doing { return api.Doing{Key: []byte(key), Val: []byte(val)} }

func gone(key string) api.Doing { return api.Doing{Key: []byte(key), Gone: true} }

func keys(l ...string) []api.Pair {
	var out []api.Pair
	for _, k := range l {
		out = append(out, pair(k, ""))
	}
	return out
}

// numbered is a book of n pairs, keys and values of many lengths.
func numbered(n int) []api.Pair {
	out := make([]api.Pair, n)
	for i := range out {
		out[i] = pair(string([]byte{byte(i)})+strings.Repeat("k", i%api.MaxKey), strings.Repeat("v", i*7%(api.MaxVal+1)))
	}
	return out
}

// puts are the doings that bring l's pairs.
func puts(l []api.Pair) []api.Doing {
	out := make([]api.Doing, len(l))
	for i, p := range l {
		out[i] = api.Doing{Key: p.Key, Val: p.Val}
	}
	return out
}

// told has the beginning of a long list alone.
func told(l []api.Pair) string {
	var out strings.Builder
	for _, p := range l {
		out.WriteString(strconv.Quote(string(p.Key)) + ":" + strconv.Quote(string(p.Val)) + " ")
	}
	return strconv.Itoa(len(l)) + " pairs " + out.String()[:min(out.Len(), 200)]
}

func samePair(a, b api.Pair) bool { return bytes.Equal(a.Key, b.Key) && bytes.Equal(a.Val, b.Val) }

func sum(parts ...[]byte) []byte {
	h := sha256.Sum256(slices.Concat(parts...))
	return h[:]
}

// referenceRoot goes level by level: two and two are one, and who is left alone goes up as it is.
func referenceRoot(l []api.Pair) []byte {
	var level [][]byte
	for _, p := range l {
		level = append(level, sum([]byte{0}, binary.BigEndian.AppendUint32(nil, uint32(len(p.Key))), p.Key, p.Val))
	}
	for len(level) > 1 {
		var up [][]byte
		for two := range slices.Chunk(level, 2) {
			if len(two) == 2 {
				two[0] = sum([]byte{1}, two[0], two[1])
			}
			up = append(up, two[0])
		}
		level = up
	}
	return sum([]byte{2}, binary.BigEndian.AppendUint32(nil, uint32(len(l))), slices.Concat(level...))
}

// referencePlay keeps values by key, and brings the keys into order at the end.
func referencePlay(l []api.Doing) ([]api.Pair, api.Fault) {
	kept := map[string]string{}
	for i, d := range l {
		if len(d.Key) > api.MaxKey || len(d.Val) > api.MaxVal {
			return nil, api.Fault{Err: api.ErrMuch, At: i}
		}
		if d.Gone {
			delete(kept, string(d.Key))
			continue
		}
		kept[string(d.Key)] = string(d.Val)
		if len(kept) > api.MaxPairs {
			return nil, api.Fault{Err: api.ErrMany, At: i}
		}
	}
	var out []api.Pair
	for _, k := range slices.Sorted(maps.Keys(kept)) {
		out = append(out, pair(k, kept[k]))
	}
	return out, api.Fault{}
}

// checkWrong: Wrong tells this, and Root tells it too, and nothing beside it.
func checkWrong(t *testing.T, name string, l []api.Pair, err api.Errno, at int) {
	t.Helper()
	want := api.Fault{Err: err, At: at}
	if f := Wrong(l); f != want {
		t.Errorf("%s: Wrong answers %v, not %v", name, f, want)
	}
	r, f := Root(l)
	if f != want || err != api.OK && len(r) != 0 {
		t.Errorf("%s: Root answers %v and %d bytes, not %v", name, f, len(r), want)
	}
}

// checkFault: that fault comes of Play, and nothing beside it.
func checkFault(t *testing.T, name string, l []api.Doing, err api.Errno, at int) {
	t.Helper()
	b, f := Play(l)
	if want := (api.Fault{Err: err, At: at}); f != want || len(b) != 0 {
		t.Errorf("%s: %v and %d pairs come, not %v", name, f, len(b), want)
	}
}

// checkPlay: just these pairs come of Play.
func checkPlay(t *testing.T, name string, l []api.Doing, want ...api.Pair) {
	t.Helper()
	b, f := Play(l)
	if f != (api.Fault{}) || !slices.EqualFunc(b, want, samePair) {
		t.Errorf("%s: %s and %v come, not %s", name, told(b), f, told(want))
	}
}

func mustRoot(t *testing.T, l []api.Pair) []byte {
	t.Helper()
	r, f := Root(l)
	if f != (api.Fault{}) || len(r) != api.Digest {
		t.Fatalf("Root of %d pairs: %v and %d bytes come", len(l), f, len(r))
	}
	return r
}

// D1
func TestBooksOfManySizes(t *testing.T) {
	for n := range api.MaxPairs + 1 {
		checkWrong(t, "a book", numbered(n), api.OK, 0)
	}
	for _, n := range []int{api.MaxPairs + 1, api.MaxPairs + 2, 256, 5000} {
		l := make([]api.Pair, n)
		for i := range l {
			l[i].Key = binary.BigEndian.AppendUint32(nil, uint32(i))
		}
		checkWrong(t, "too many", l, api.ErrMany, 0)
		checkWrong(t, "too many, and out of order", make([]api.Pair, n), api.ErrMany, 0)
		l[0].Key = make([]byte, api.MaxKey+1)
		checkWrong(t, "too many, and too much", l, api.ErrMany, 0)
	}
}

// D1
func TestHowMuchAPairMayHave(t *testing.T) {
	for _, c := range []struct{ key, val int }{
		{api.MaxKey + 1, 0}, {api.MaxKey + 1, api.MaxVal}, {1, api.MaxVal + 1}, {api.MaxKey, api.MaxVal + 1},
		{api.MaxVal, 0}, {256, 0}, {256, 256}, {1, 256}, {100000, 100000},
	} {
		for at := range 4 {
			l := []api.Pair{pair("a", "1"), pair("b", "2"), pair("c", "3"), pair("d", "4")}
			much := pair(string(l[at].Key)+strings.Repeat("k", c.key-1), strings.Repeat("v", c.val))
			l[at] = much
			checkWrong(t, "too much", l, api.ErrMuch, at)
			checkFault(t, "too much", puts(l), api.ErrMuch, at)
		}
	}
	full := []api.Pair{pair(strings.Repeat("k", api.MaxKey), strings.Repeat("v", api.MaxVal)), pair("l", "")}
	checkWrong(t, "as much as may be", full, api.OK, 0)
	checkPlay(t, "as much as may be", puts(full), full...)
}

// D1: keys from the least one on; each one ahead of all the others that stand behind it here.
func TestOrderOfKeys(t *testing.T) {
	rising := []string{"", "\x00", "\x00\x00", "\x00\x01", "\x01", "A", "AB", "a", "a\x00", "a\x00b", "aa", "ab", "abc", "abd", "b", "\x7f", "\x80", "\xc3\xa4", "\xff", "\xff\x00", "\xff\xff"}
	checkWrong(t, "all of them", keys(rising...), api.OK, 0)
	for i, low := range rising {
		checkWrong(t, "twice the same", keys(low, low), api.ErrForm, 1)
		for _, high := range rising[i+1:] {
			checkWrong(t, "rising", keys(low, high), api.OK, 0)
			checkWrong(t, "falling", keys(high, low), api.ErrForm, 1)
			checkPlay(t, "rising", []api.Doing{put(low, ""), put(high, "")}, keys(low, high)...)
			checkPlay(t, "falling", []api.Doing{put(high, ""), put(low, "")}, keys(low, high)...)
		}
	}
}

// D1: values don't put pairs in order, and don't tell them apart.
func TestValuesMeanNothingForTheOrder(t *testing.T) {
	checkWrong(t, "values falling", []api.Pair{pair("a", "9"), pair("b", "1")}, api.OK, 0)
	checkWrong(t, "one key, two values", []api.Pair{pair("a", "1"), pair("a", "2")}, api.ErrForm, 1)
}

// D1: the first pair with something wrong is told, and of one pair that it is too much.
func TestWhichFaultIsToldFirst(t *testing.T) {
	much := strings.Repeat("a", api.MaxKey+1)
	checkWrong(t, "out of order, later too much", keys("b", "a", much), api.ErrForm, 1)
	checkWrong(t, "too much, later out of order", keys(much, "c", "b"), api.ErrMuch, 0)
	checkWrong(t, "both at once", keys("b", much), api.ErrMuch, 1)
	checkWrong(t, "out of order at the end", keys("a", "b", "c", "b"), api.ErrForm, 3)
	checkWrong(t, "out of order twice", keys("a", "c", "b", "a"), api.ErrForm, 2)
	checkWrong(t, "only the neighbour counts", keys("m", "a", "b"), api.ErrForm, 1)
}

// D1
func TestPlayOfKnownDoings(t *testing.T) {
	checkPlay(t, "nothing", nil)
	checkPlay(t, "b and a", []api.Doing{put("b", "1"), put("a", "2")}, pair("a", "2"), pair("b", "1"))
	checkPlay(t, "in its place", []api.Doing{put("a", "1"), put("b", "2"), put("a", "3")}, pair("a", "3"), pair("b", "2"))
	checkPlay(t, "a shorter value", []api.Doing{put("a", "123"), put("a", "")}, pair("a", ""))
	checkPlay(t, "the empty key", []api.Doing{put("a", "1"), put("", "2")}, pair("", "2"), pair("a", "1"))
	checkPlay(t, "the empty key goes", []api.Doing{put("", "2"), put("a", "1"), gone("")}, pair("a", "1"))
	checkPlay(t, "one goes", []api.Doing{put("a", "1"), put("b", "2"), put("c", "3"), gone("b")}, pair("a", "1"), pair("c", "3"))
	checkPlay(t, "what is not there goes", []api.Doing{gone("a"), put("ab", "1"), gone("a"), gone("abc"), gone("")}, pair("ab", "1"))
	checkPlay(t, "it goes twice", []api.Doing{put("a", "1"), gone("a"), gone("a")})
	checkPlay(t, "it goes and comes", []api.Doing{put("a", "1"), gone("a"), put("a", "2")}, pair("a", "2"))
	checkPlay(t, "no value is a value", []api.Doing{put("a", "1"), put("a", "")}, pair("a", ""))
	checkPlay(t, "gone, with a value", []api.Doing{put("a", "1"), {Key: []byte("a"), Val: []byte("1"), Gone: true}})
}

// D1: what has come and gone stands in for nothing.
func TestABookKnowsNoPast(t *testing.T) {
	l := numbered(50)
	r := rand.New(rand.NewSource(1))
	want := mustRoot(t, l)
	for range 20 {
		doings := puts(l)
		r.Shuffle(len(doings), func(i, j int) { doings[i], doings[j] = doings[j], doings[i] })
		around := []api.Doing{put("z", "1"), put("\x01", "2")}
		around = append(around, doings...)
		around = append(around, gone("z"), put("y", ""), gone("\x01"), gone("y"), doings[0])
		around = append(around, doings...)
		b, f := Play(around)
		if f != (api.Fault{}) || !slices.EqualFunc(b, l, samePair) || !bytes.Equal(mustRoot(t, b), want) {
			t.Fatalf("%v and another book of %d pairs comes", f, len(b))
		}
	}
}

// D1: as many as may be, and one more.
func TestHowManyPairsPlayTakes(t *testing.T) {
	l := numbered(api.MaxPairs + 1)
	all := puts(l)
	full, last := all[:api.MaxPairs], all[api.MaxPairs]
	with := func(more ...api.Doing) []api.Doing { return append(slices.Clone(full), more...) }
	checkPlay(t, "full", full, l[:api.MaxPairs]...)
	checkFault(t, "one more", all, api.ErrMany, api.MaxPairs)
	checkFault(t, "one more, ahead of all", with(put("", "")), api.ErrMany, api.MaxPairs)
	checkFault(t, "one more, that would go", with(last, gone(string(last.Key))), api.ErrMany, api.MaxPairs)
	checkFault(t, "one more, and too much", with(last, put(strings.Repeat("k", 61), "")), api.ErrMany, api.MaxPairs)
	checkFault(t, "too much, one more", with(put(strings.Repeat("k", 61), ""), last), api.ErrMuch, api.MaxPairs)
	checkFault(t, "one more that is too much", with(put("none", strings.Repeat("v", 201))), api.ErrMuch, api.MaxPairs)
	changed := slices.Clone(l[:api.MaxPairs])
	changed[7] = pair(string(l[7].Key), "other")
	checkPlay(t, "another value in a full one", with(put(string(l[7].Key), "other")), changed...)
	checkPlay(t, "nothing goes of a full one", with(gone("none")), l[:api.MaxPairs]...)
	checkPlay(t, "one goes, one comes", with(gone(string(l[0].Key)), last), l[1:]...)
	checkFault(t, "one goes, two come", with(gone(string(l[0].Key)), last, put("none", "")), api.ErrMany, api.MaxPairs+2)
}

// D1: of Key and Val, whether it comes or goes, and whatever comes later.
func TestTooMuchOfWhatGoes(t *testing.T) {
	key, val := strings.Repeat("k", api.MaxKey), strings.Repeat("v", api.MaxVal)
	checkPlay(t, "as much as may be", []api.Doing{put(key, val), {Key: []byte(key), Val: []byte(val), Gone: true}})
	checkFault(t, "a key", []api.Doing{put("a", ""), gone(key + "k")}, api.ErrMuch, 1)
	checkFault(t, "a value", []api.Doing{put("a", ""), {Key: []byte("a"), Val: []byte(val + "v"), Gone: true}}, api.ErrMuch, 1)
	checkFault(t, "two of them", []api.Doing{put("a", ""), gone(key + "k"), put("b", val+"v")}, api.ErrMuch, 1)
}

// D1: more doings than a book has pairs.
func TestManyDoings(t *testing.T) {
	var l []api.Doing
	for i := range 5000 {
		l = append(l, put(string([]byte{byte(i % 3)}), "v"), gone(string([]byte{byte(i % 3)})))
	}
	checkPlay(t, "come and gone", l)
	checkPlay(t, "and one", append(l, put("a", "b")), pair("a", "b"))
}

func randomDoings(r *rand.Rand) []api.Doing {
	out := make([]api.Doing, r.Intn(500))
	width := []int{1, 4, 16, 256}[r.Intn(4)]
	for i := range out {
		key := make([]byte, r.Intn(3))
		for j := range key {
			key[j] = byte(r.Intn(width))
		}
		out[i] = api.Doing{Key: key, Val: make([]byte, r.Intn(6)), Gone: r.Intn(4) == 0}
		r.Read(out[i].Val)
	}
	if len(out) > 0 && r.Intn(8) == 0 {
		out[r.Intn(len(out))].Key = make([]byte, 59+r.Intn(4))
		out[r.Intn(len(out))].Val = make([]byte, 199+r.Intn(4))
	}
	return out
}

// D1 and D2, held against the references.
func TestRandomDoings(t *testing.T) {
	r := rand.New(rand.NewSource(4))
	seen := map[api.Errno]int{}
	for range 1500 {
		l := randomDoings(r)
		b, f := Play(l)
		want, wantFault := referencePlay(l)
		if f != wantFault || !slices.EqualFunc(b, want, samePair) {
			t.Fatalf("%v and %d pairs come, not %v and %d", f, len(b), wantFault, len(want))
		}
		if !bytes.Equal(mustRoot(t, b), referenceRoot(want)) {
			t.Fatalf("another root of %d pairs", len(b))
		}
		seen[f.Err]++
	}
	for _, e := range []api.Errno{api.OK, api.ErrMuch, api.ErrMany} {
		if seen[e] < 20 {
			t.Errorf("%d came only %d times", e, seen[e])
		}
	}
}

// D1
func TestGet(t *testing.T) {
	for n := range api.MaxPairs + 1 {
		l := numbered(n)
		for _, p := range l {
			if v, ok := Get(l, p.Key); !ok || !bytes.Equal(v, p.Val) {
				t.Fatalf("%q of %d pairs: %v and %v come", p.Key, n, v, ok)
			}
			if len(p.Key) == api.MaxKey {
				continue
			}
			if v, ok := Get(l, append(slices.Clone(p.Key), 0)); ok || len(v) != 0 {
				t.Fatalf("behind %q of %d pairs: %v and %v come", p.Key, n, v, ok)
			}
		}
		for _, k := range []string{"", "\xff", "\xff\xff", strings.Repeat("k", 1000)} {
			if v, ok := Get(l, []byte(k)); ok || len(v) != 0 {
				t.Fatalf("%q of %d pairs: %v and %v come", k, n, v, ok)
			}
		}
	}
	l := []api.Pair{pair("", "e"), pair("a", ""), pair("abc", "1")}
	for k, want := range map[string]string{"": "e", "a": "", "abc": "1"} {
		if v, ok := Get(l, []byte(k)); !ok || string(v) != want {
			t.Errorf("%q: %q and %v come", k, v, ok)
		}
	}
	for _, k := range []string{"\x00", "ab", "abcd", "b", "A"} {
		if v, ok := Get(l, []byte(k)); ok || len(v) != 0 {
			t.Errorf("%q: %q and %v come", k, v, ok)
		}
	}
}

// D1: of no book nothing is promised, but that nothing panics.
func TestGetOfNoBook(t *testing.T) {
	for _, l := range [][]api.Pair{make([]api.Pair, 1000), keys("c", "b", "a"), keys("a", "a"), {pair(strings.Repeat("k", 1000), "")}} {
		for _, k := range []string{"", "a", "b", "c", strings.Repeat("k", 1000)} {
			Get(l, []byte(k))
		}
	}
}

// D2: reckoned by other hands.
func TestRootOfKnownBooks(t *testing.T) {
	for _, c := range []struct {
		l    []api.Pair
		want string
	}{
		{nil, "395c2f5598a1643a205154c6f4c46ce36895b28e6c35660a95e5c6fd5ef9aeab"},
		{[]api.Pair{pair("b", "1")}, "1f6dbcfe02ffd5b2797a7593c26f19fad3d2a108dda13586a1f148c1838d4ba9"},
		{[]api.Pair{pair("", "e"), pair("b", "4"), pair("c", "3")}, "f5591984c3e41ee95bae2f2ff0bda2759554978e2871453b00bfb874ce539143"},
		{keys("a", "ab", "abc", "b"), "1dc8e3cec873912ac0b9ab823cb3e3e68f22db98b94f1b5002e8069ae29785f4"},
	} {
		if got := hex.EncodeToString(mustRoot(t, c.l)); got != c.want {
			t.Errorf("%v: %s comes, not %s", c.l, got, c.want)
		}
	}
}

// D2: written out by hand, where the trees of two sides are not of one size.
func TestRootOfThreePairs(t *testing.T) {
	l := []api.Pair{pair("a", "1"), pair("bc", "22"), pair("d", "")}
	a := sum([]byte("\x00\x00\x00\x00\x01a1"))
	b := sum([]byte("\x00\x00\x00\x00\x02bc22"))
	d := sum([]byte("\x00\x00\x00\x00\x01d"))
	want := sum([]byte{2, 0, 0, 0, 3}, sum([]byte{1}, sum([]byte{1}, a, b), d))
	if got := mustRoot(t, l); !bytes.Equal(got, want) {
		t.Errorf("%x comes, not %x", got, want)
	}
}

// D2
func TestRootOfEverySize(t *testing.T) {
	for n := range api.MaxPairs + 1 {
		l := numbered(n)
		if got, want := mustRoot(t, l), referenceRoot(l); !bytes.Equal(got, want) {
			t.Errorf("%d pairs: %x comes, not %x", n, got, want)
		}
	}
}

// D2: what other layers take from here answers whatever it is given (Z1).
func TestSplit(t *testing.T) {
	for n, want := range map[int]int{math.MinInt: 0, -1: 0, 0: 0, 1: 0, 2: 1, 3: 2, 4: 2, 5: 4, 8: 4, 9: 8, 200: 128, math.MaxInt: 1 << 62} {
		if got := Split(n); got != want {
			t.Errorf("%d: %d comes, not %d", n, got, want)
		}
	}
	if len(Tree(nil)) != 0 {
		t.Error("no pairs have a tree")
	}
}

// D2: books that differ anywhere have digests of other bytes.
func TestRootHangsOnEverything(t *testing.T) {
	books := [][]api.Pair{
		nil,
		keys(""),
		{pair("a", "bc")}, {pair("ab", "c")}, {pair("abc", "")}, {pair("", "abc")},
		keys("a", "b"), keys("a", "c"), keys("a", "b", "c"),
		{pair("a", "x"), pair("b", "")}, {pair("a", ""), pair("b", "x")},
	}
	seen := map[string]int{}
	for i, l := range books {
		r := string(mustRoot(t, l))
		if j, ok := seen[r]; ok {
			t.Errorf("books %d and %d have one root", i, j)
		}
		seen[r] = i
	}
}

// Z3
func TestNilAndEmptyAreTheSame(t *testing.T) {
	empty := []byte{}
	checkWrong(t, "empty", []api.Pair{}, api.OK, 0)
	checkWrong(t, "nil keys", []api.Pair{{}, {Key: empty}}, api.ErrForm, 1)
	checkPlay(t, "empty", []api.Doing{})
	checkPlay(t, "one key", []api.Doing{{Key: nil, Val: []byte("1")}, {Key: empty, Val: empty}}, pair("", ""))
	checkPlay(t, "it goes", []api.Doing{{Key: nil}, {Key: empty, Gone: true}})
	if !bytes.Equal(mustRoot(t, nil), mustRoot(t, []api.Pair{})) || !bytes.Equal(mustRoot(t, []api.Pair{{}}), mustRoot(t, []api.Pair{{Key: empty, Val: empty}})) {
		t.Error("two roots of one book")
	}
	if v, ok := Get([]api.Pair{{Key: empty, Val: []byte("1")}}, nil); !ok || string(v) != "1" {
		t.Error("nil does not find the empty key")
	}
	if _, ok := Get(nil, nil); ok {
		t.Error("something stands in nothing")
	}
}

// Z2: neither what is handed in nor the room behind it is changed, and that room means nothing.
func TestArgumentsAreOnlyRead(t *testing.T) {
	text := []byte("abcdefgh, with room")
	doings := []api.Doing{{Key: text[4:5], Val: text[5:7]}, {Key: text[0:1], Val: text[1:4]}, {Key: text[4:5], Gone: true}, put("z", "z")}
	pairs := []api.Pair{{Key: text[0:1], Val: text[1:3]}, {Key: text[3:4], Val: text[4:5]}, pair("a", "")}
	checkPlay(t, "with room", doings[:2], pair("a", "bcd"), pair("e", "fg"))
	checkPlay(t, "with room, and gone", doings[:3], pair("a", "bcd"))
	checkWrong(t, "with room", pairs[:2], api.OK, 0)
	if !bytes.Equal(mustRoot(t, pairs[:2]), referenceRoot([]api.Pair{pair("a", "bc"), pair("d", "e")})) {
		t.Error("another root")
	}
	if v, ok := Get(pairs[:2], text[3:4]); !ok || string(v) != "e" {
		t.Error("another value")
	}
	whole := string(text) == "abcdefgh, with room" && string(doings[3].Key) == "z" && string(doings[0].Key) == "e" && !doings[0].Gone
	if !whole || !samePair(pairs[0], pair("a", "bc")) || !samePair(pairs[1], pair("d", "e")) || !samePair(pairs[2], pair("a", "")) {
		t.Error("an argument or its spare room has changed")
	}
}

// Z2: answers share no memory with arguments, with other answers or with each other, spare room included.
func TestAnswersAreNewMemory(t *testing.T) {
	shared := []byte("k")
	doings := []api.Doing{{Key: shared, Val: shared}, put("a", "1"), put("b", "22"), put("c", "3"), put("z", "9"), gone("z"), {Key: []byte("c"), Val: shared}, gone("b")}
	want := []api.Pair{pair("a", "1"), pair("c", "k"), pair("k", "k")}
	first, _ := Play(doings)
	second, _ := Play(doings)
	first = first[:cap(first)]
	for i := range first {
		for j, list := range [][]byte{first[i].Key, first[i].Val} {
			list = list[:cap(list)]
			for at := range list {
				list[at] = byte(0x80 + 2*i + j)
			}
		}
	}
	for i := range first {
		for j, list := range [][]byte{first[i].Key, first[i].Val} {
			if len(list) > 0 && list[0] != byte(0x80+2*i+j) {
				t.Errorf("pair %d shares memory with another one", i)
			}
		}
	}
	clear(first)
	if string(shared) != "k" || !slices.EqualFunc(second, want, samePair) {
		t.Error("what Play answers is shared")
	}
	v, _ := Get(second, shared)
	root := mustRoot(t, second)
	clear(v[:cap(v)])
	clear(root[:cap(root)])
	if !slices.EqualFunc(second, want, samePair) || !bytes.Equal(mustRoot(t, second), referenceRoot(want)) {
		t.Error("what Get or Root answers is shared")
	}
}

// Z1: calls that run side by side don't disturb each other.
func TestCallsSideBySide(t *testing.T) {
	var all sync.WaitGroup
	l := numbered(20)
	doings, want := puts(l), referenceRoot(l)
	for range 8 {
		all.Go(func() {
			for range 50 {
				b, f := Play(doings)
				r, g := Root(l)
				if f != g || Wrong(l) != f || f.Err != api.OK || !slices.EqualFunc(b, l, samePair) || !bytes.Equal(r, want) {
					t.Error("another answer")
					return
				}
			}
		})
	}
	all.Wait()
}

// FuzzPlay takes doings from bytes: how long key and value are, whether it goes, and what they are.
func FuzzPlay(f *testing.F) {
	f.Add([]byte{1, 1, 0, 'b', '1', 1, 1, 0, 'a', '2', 1, 0, 1, 'b'})
	f.Add([]byte{61, 0, 0})
	f.Add([]byte{1, 201, 1})
	f.Fuzz(func(t *testing.T, b []byte) {
		var l []api.Doing
		for len(b) >= 3 {
			k, v, goes := int(b[0]), int(b[1]), b[2]%2 == 1
			b = append(b[3:], make([]byte, k+v)...)
			l = append(l, api.Doing{Key: b[:k:k], Val: b[k : k+v : k+v], Gone: goes})
			b = bytes.TrimRight(b[k+v:], "\x00")
		}
		book, fault := Play(l)
		want, wantFault := referencePlay(l)
		if fault != wantFault || !slices.EqualFunc(book, want, samePair) || Wrong(book) != (api.Fault{}) {
			t.Errorf("%v and %v come, not %v and %v", book, fault, want, wantFault)
		}
		if r, _ := Root(book); !bytes.Equal(r, referenceRoot(want)) {
			t.Errorf("another root of %v", book)
		}
	})
}
