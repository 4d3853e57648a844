package header

import (
	"bytes"
	"encoding/hex"
	"math"
	"strings"
	"testing"

	"landbridge/api"
	"landbridge/wire"
)

func checkVals(t *testing.T, name string, want api.Errno, l ...api.Val) {
	t.Helper()
	if got := Vals(l); got != want {
		t.Errorf("%s: %d comes, not %d", name, got, want)
	}
	if want != referenceVals(l) {
		t.Errorf("%s: the reference answers otherwise", name)
	}
}

func checkWrong(t *testing.T, name string, h api.Header, want api.Errno) {
	t.Helper()
	if got := Wrong(h); got != want {
		t.Errorf("%s: %d comes, not %d", name, got, want)
	}
	if want != referenceWrong(h) {
		t.Errorf("%s: the reference answers otherwise", name)
	}
}

// rising has n validators of keys 1 and so on.
func rising(n int) []api.Val {
	var out []api.Val
	for i := range n {
		out = append(out, api.Val{Key: uint64(i + 1), Power: 1})
	}
	return out
}

// F1
func TestHowManyValidators(t *testing.T) {
	checkVals(t, "nil", api.ErrMany)
	checkVals(t, "empty", api.ErrMany, []api.Val{}...)
	for n := 1; n <= 10; n++ {
		checkVals(t, "as many as may be", api.OK, rising(n)...)
	}
	checkVals(t, "one too many", api.ErrMany, rising(11)...)
	checkVals(t, "far too many", api.ErrMany, rising(1000)...)
	checkVals(t, "too many, without power", api.ErrMany, make([]api.Val, 11)...)
}

// F1
func TestPowers(t *testing.T) {
	for power, want := range map[uint64]api.Errno{
		0: api.ErrRange, 1: api.OK, 2: api.OK, 999999: api.OK, 1000000: api.OK,
		1000001: api.ErrRange, 1 << 32: api.ErrRange, 1<<32 + 1: api.ErrRange, 1 << 63: api.ErrRange, math.MaxUint64: api.ErrRange,
	} {
		for place := range 10 {
			l := rising(10)
			l[place].Power = power
			checkVals(t, "a power", want, l...)
			checkVals(t, "a power, the last one", want, l[:place+1]...)
		}
	}
}

// F1: whatever their seeds are, and whether anybody has one.
func TestKeysRise(t *testing.T) {
	key := func(k uint64) api.Val { return api.Val{Key: k, Power: 1} }
	checkVals(t, "the least and the greatest", api.OK, key(0), key(math.MaxUint64))
	checkVals(t, "above 63 bits", api.OK, key(1), key(1<<63), key(1<<63+1))
	checkVals(t, "none twice", api.ErrForm, key(0), key(0))
	checkVals(t, "one twice", api.ErrForm, key(1), key(1))
	checkVals(t, "falling", api.ErrForm, key(2), key(1))
	checkVals(t, "falling, by the high bits", api.ErrForm, key(1<<63), key(1))
	checkVals(t, "the last one falls", api.ErrForm, key(1), key(2), key(3), key(2))
	checkVals(t, "less than the last but one", api.ErrForm, key(1), key(5), key(3), key(6))
}

// F1: one by one, and of each one its power first.
func TestTheFirstErrorOfValidators(t *testing.T) {
	val := func(k, p uint64) api.Val { return api.Val{Key: k, Power: p} }
	checkVals(t, "both at one", api.ErrRange, val(2, 1), val(1, 0))
	checkVals(t, "the key first", api.ErrForm, val(2, 1), val(1, 1), val(3, 0))
	checkVals(t, "the power first", api.ErrRange, val(2, 1), val(3, 0), val(1, 1))
	checkVals(t, "the first power", api.ErrRange, val(2, 0), val(1, 1))
}

// F1: reckoned by other hands.
func TestAKnownDigest(t *testing.T) {
	vals := []api.Val{{Key: 388484325938516318, Power: 2}, {Key: 416620009211762658, Power: 1}, {Key: 482161054897437987, Power: 4}, {Key: 1068375437539872586, Power: 3}}
	if got := hex.EncodeToString(Digest(vals)); got != "2489e9007743f2cbc53b8478f8d2e22296769601105e5f929928bfc66366f883" {
		t.Errorf("%s comes", got)
	}
}

// F1
func TestDigestsOfValidators(t *testing.T) {
	keys := []uint64{0, 1, 127, 128, 300, 1 << 32, 1 << 59, 1<<63 - 1, 1 << 63, math.MaxUint64}
	var l []api.Val
	for i, k := range keys {
		l = append(l, api.Val{Key: k, Power: uint64(1000000 - i*111111)})
		for from := range l {
			if got := Digest(l[from:]); !bytes.Equal(got, referenceDigest(l[from:])) {
				t.Errorf("%v: %x comes", l[from:], got)
			}
		}
	}
}

// F1: nothing is promised of others, but that they are answered.
func TestDigestOfWhatAreNoValidators(t *testing.T) {
	for _, n := range []int{0, 11, 99, 100, 101, 100000} {
		Digest(make([]api.Val, n))
	}
	Digest(nil)
}

// F1
func TestNames(t *testing.T) {
	h := headerOf(rising(1))
	for b := range 256 {
		want := api.ErrName
		if strings.IndexByte("abcdefghijklmnopqrstuvwxyz0123456789", byte(b)) >= 0 {
			want = api.OK
		}
		c := string([]byte{byte(b)})
		for _, name := range []string{c, c + "x", "x" + c, "x" + c + "x", strings.Repeat("x", 19) + c} {
			h.Chain = name
			checkWrong(t, name, h, want)
			if IsName(name) != (want == api.OK) {
				t.Errorf("IsName of %q: another answer", name)
			}
		}
	}
	for n := range 50 {
		want := api.OK
		if n < 1 || n > 20 {
			want = api.ErrName
		}
		h.Chain = strings.Repeat("z", n)
		checkWrong(t, h.Chain, h, want)
	}
	for _, name := range []string{"é", "ß", "ａ", "\xff", "a\n", "a b", "a-b", "Abc", "abC", "a.", "#1", "a/b", strings.Repeat("é", 10), strings.Repeat("a", 1<<20)} {
		h.Chain = name
		checkWrong(t, "another name", h, api.ErrName)
	}
}

// F1
func TestHeightsAndTimes(t *testing.T) {
	for n, want := range map[int][2]api.Errno{
		math.MinInt:     {api.ErrRange, api.ErrRange},
		-1:              {api.ErrRange, api.ErrRange},
		0:               {api.ErrRange, api.OK},
		1:               {api.OK, api.OK},
		1 << 32:         {api.OK, api.OK},
		999999999999:    {api.OK, api.OK},
		1000000000000:   {api.OK, api.OK},
		1000000000001:   {api.ErrRange, api.ErrRange},
		math.MaxInt - 1: {api.ErrRange, api.ErrRange},
		math.MaxInt:     {api.ErrRange, api.ErrRange},
	} {
		h := headerOf(rising(1))
		h.Height = n
		checkWrong(t, "a height", h, want[0])
		h = headerOf(rising(1))
		h.Time = n
		checkWrong(t, "a time", h, want[1])
	}
}

// F1
func TestDigestsInHeaders(t *testing.T) {
	for _, n := range []int{0, 1, 31, 32, 33, 64, 1000} {
		want := api.ErrForm
		if n == 32 {
			want = api.OK
		}
		for i := range 3 {
			h := headerOf(rising(1))
			*[]*[]byte{&h.Root, &h.Vals, &h.Next}[i] = make([]byte, n)
			checkWrong(t, "a digest", h, want)
		}
	}
	for i := range 3 {
		h := headerOf(rising(1))
		*[]*[]byte{&h.Root, &h.Vals, &h.Next}[i] = nil
		checkWrong(t, "no digest", h, api.ErrForm)
	}
}

// F1: the name, then the numbers, then the digests.
func TestTheFirstErrorOfAHeader(t *testing.T) {
	for i := range 64 {
		h := headerOf(rising(1))
		want := api.OK
		if i&1 > 0 {
			h.Root, want = h.Root[:31], api.ErrForm
		}
		if i&2 > 0 {
			h.Vals, want = nil, api.ErrForm
		}
		if i&4 > 0 {
			h.Next, want = append(h.Next, 0), api.ErrForm
		}
		if i&8 > 0 {
			h.Time, want = -1, api.ErrRange
		}
		if i&16 > 0 {
			h.Height, want = 0, api.ErrRange
		}
		if i&32 > 0 {
			h.Chain, want = "", api.ErrName
		}
		checkWrong(t, "several", h, want)
	}
	checkWrong(t, "nothing at all", api.Header{}, api.ErrName)
}

// F1: written out by hand.
func TestBytesOfAHeader(t *testing.T) {
	h := api.Header{Chain: "abc1", Height: 5, Time: 300, Root: filled('r', 32), Vals: filled('v', 32), Next: filled('n', 32)}
	want := "\x06" + "\x01\x04abc1" + "\x00\x05" + "\x00\xac\x02" +
		"\x01\x20" + strings.Repeat("r", 32) + "\x01\x20" + strings.Repeat("v", 32) + "\x01\x20" + strings.Repeat("n", 32)
	if got := Bytes(h); string(got) != want {
		t.Errorf("%q comes", got)
	}
}

// F1: at the edges, and read again.
func TestBytesAtTheEdges(t *testing.T) {
	for _, chain := range []string{"a", "0", strings.Repeat("z9", 10)} {
		for _, height := range []int{1, 127, 128, 1 << 32, api.MaxNum} {
			for _, time := range []int{0, 1, 127, 128, 1 << 32, api.MaxNum} {
				h := headerOf(rising(1))
				h.Chain, h.Height, h.Time = chain, height, time
				b := Bytes(h)
				if !bytes.Equal(b, referenceBytes(h)) {
					t.Fatalf("%v: %x comes", h, b)
				}
				l, err := wire.Read(b)
				if err != api.OK || len(l) != 6 || string(l[0].B) != chain || l[1].N != uint64(height) || l[2].N != uint64(time) {
					t.Fatalf("%v: %v is read", h, l)
				}
			}
		}
	}
}

// F1: nothing is promised of others, but that they are answered.
func TestBytesOfWhatIsNoHeader(t *testing.T) {
	long := make([]byte, 100000)
	for _, h := range []api.Header{
		{},
		{Height: math.MinInt, Time: math.MinInt},
		{Height: math.MaxInt, Time: math.MaxInt, Chain: string(long)},
		{Root: long, Vals: long, Next: long},
	} {
		Bytes(h)
	}
}
