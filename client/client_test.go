package client

import (
	"math"
	"strings"
	"testing"

	"landbridge/api"
)

func checkWrong(t *testing.T, name string, c api.Client, want api.Errno) {
	t.Helper()
	if got := Wrong(c); got != want {
		t.Errorf("%q: %d comes, not %d", name, got, want)
	}
	if want != referenceWrong(c) {
		t.Errorf("%q: the reference answers otherwise", name)
	}
}

// checkNew asks for a client, and Wrong for what is the same.
func checkNew(t *testing.T, name, chain string, trust int, k api.Known, want api.Errno) {
	t.Helper()
	own := api.Client{Chain: chain, Trust: trust, Known: []api.Known{k}}
	checkWrong(t, name, own, want)
	c, err := New(chain, trust, k)
	if err != want {
		t.Errorf("%q: %d comes, not %d", name, err, want)
	}
	if want != api.OK {
		own = api.Client{}
	}
	if !sameClient(c, own) {
		t.Errorf("%q: %v comes", name, c)
	}
}

// G1
func TestNamesOfChains(t *testing.T) {
	k := numbered(1)[0]
	for b := range 256 {
		want := api.ErrName
		if strings.IndexByte("abcdefghijklmnopqrstuvwxyz0123456789", byte(b)) >= 0 {
			want = api.OK
		}
		c := string([]byte{byte(b)})
		for _, name := range []string{c, c + "x", "x" + c, strings.Repeat("x", 19) + c} {
			checkNew(t, name, name, 1, k, want)
		}
	}
	for n := range 50 {
		want := api.OK
		if n < 1 || n > 20 {
			want = api.ErrName
		}
		checkNew(t, "a long name", strings.Repeat("7", n), 1, k, want)
	}
	for _, name := range []string{"é", "a b", "a\n", strings.Repeat("é", 10), strings.Repeat("a", 1<<20)} {
		checkNew(t, "another name", name, 1, k, api.ErrName)
	}
}

// G1: trust and heights are from 1 on, times from 0 on.
func TestNumbersOfClients(t *testing.T) {
	for n, want := range map[int][2]api.Errno{
		math.MinInt:   {api.ErrRange, api.ErrRange},
		-1:            {api.ErrRange, api.ErrRange},
		0:             {api.ErrRange, api.OK},
		1:             {api.OK, api.OK},
		1 << 32:       {api.OK, api.OK},
		999999999999:  {api.OK, api.OK},
		1000000000000: {api.OK, api.OK},
		1000000000001: {api.ErrRange, api.ErrRange},
		math.MaxInt:   {api.ErrRange, api.ErrRange},
	} {
		k := numbered(1)[0]
		checkNew(t, "a trust", "b", n, k, want[0])
		k.Height = n
		checkNew(t, "a height", "b", 1, k, want[0])
		k.Height, k.Time = 1, n
		checkNew(t, "a time", "b", 1, k, want[1])
	}
}

// G1
func TestHowManyAreKnown(t *testing.T) {
	checkWrong(t, "nil", knowing(1), api.ErrMany)
	checkWrong(t, "empty", knowing(1, []api.Known{}...), api.ErrMany)
	for n := 1; n <= 30; n++ {
		checkWrong(t, "as many as may be", knowing(1, numbered(n)...), api.OK)
	}
	checkWrong(t, "one too many", knowing(1, numbered(31)...), api.ErrMany)
	checkWrong(t, "far too many", knowing(1, numbered(1000)...), api.ErrMany)
	checkWrong(t, "too many, and empty", knowing(1, make([]api.Known, 31)...), api.ErrMany)
}

// G1: at each place.
func TestEachThatIsKnown(t *testing.T) {
	for place := range 5 {
		for name, one := range map[string]struct {
			want   api.Errno
			change func(k *api.Known)
		}{
			"as it is":           {api.OK, func(k *api.Known) {}},
			"no height":          {api.ErrRange, func(k *api.Known) { k.Height = 0 }},
			"a height below":     {api.ErrRange, func(k *api.Known) { k.Height = -k.Height }},
			"a height far above": {api.ErrRange, func(k *api.Known) { k.Height = api.MaxNum + 1 }},
			"a time below":       {api.ErrRange, func(k *api.Known) { k.Time = -1 }},
			"a time far above":   {api.ErrRange, func(k *api.Known) { k.Time = api.MaxNum + 1 }},
			"the first time":     {api.OK, func(k *api.Known) { k.Time = 0 }},
			"the last time":      {api.OK, func(k *api.Known) { k.Time = api.MaxNum }},
			"no root":            {api.ErrForm, func(k *api.Known) { k.Root = nil }},
			"a short root":       {api.ErrForm, func(k *api.Known) { k.Root = k.Root[:31] }},
			"a long root":        {api.ErrForm, func(k *api.Known) { k.Root = append(k.Root, 0) }},
			"no next":            {api.ErrForm, func(k *api.Known) { k.Next = nil }},
			"a short next":       {api.ErrForm, func(k *api.Known) { k.Next = k.Next[:31] }},
			"a long next":        {api.ErrForm, func(k *api.Known) { k.Next = append(k.Next, 0) }},
		} {
			l := numbered(5)
			one.change(&l[place])
			checkWrong(t, name, knowing(1, l...), one.want)
			checkWrong(t, name+", the last one", knowing(1, l[:place+1]...), one.want)
		}
	}
}

// G1: heights rise, and times need not.
func TestHeightsRise(t *testing.T) {
	at := func(heights ...int) api.Client {
		l := numbered(len(heights))
		for i, h := range heights {
			l[i].Height, l[i].Time = h, 50-i
		}
		return knowing(1, l...)
	}
	checkWrong(t, "the least and the greatest", at(1, api.MaxNum), api.OK)
	checkWrong(t, "with gaps", at(2, 7, 8, 300), api.OK)
	checkWrong(t, "one twice", at(3, 3), api.ErrForm)
	checkWrong(t, "falling", at(3, 2), api.ErrForm)
	checkWrong(t, "the last one falls", at(1, 2, 3, 2), api.ErrForm)
	checkWrong(t, "less than the last but one", at(1, 5, 3, 6), api.ErrForm)
}

// G1: the name, trust, how many; then one by one, of each one its numbers first.
func TestTheFirstErrorOfAClient(t *testing.T) {
	for i := range 32 {
		c, want := knowing(1, numbered(30)...), api.OK
		if i&1 > 0 {
			c.Known[1].Root, want = nil, api.ErrForm
		}
		if i&2 > 0 {
			c.Known[1].Time, want = -1, api.ErrRange
		}
		if i&4 > 0 {
			c.Known, want = append(c.Known, api.Known{}), api.ErrMany
		}
		if i&8 > 0 {
			c.Trust, want = 0, api.ErrRange
		}
		if i&16 > 0 {
			c.Chain, want = "B", api.ErrName
		}
		checkWrong(t, "several", c, want)
	}
	l := numbered(3)
	l[1].Next, l[2].Height = nil, 0
	checkWrong(t, "the form first", knowing(1, l...), api.ErrForm)
	l = numbered(3)
	l[1].Time, l[2].Next = -1, nil
	checkWrong(t, "the numbers first", knowing(1, l...), api.ErrRange)
	l = numbered(3)
	l[1].Height, l[2].Time = 1, -1
	checkWrong(t, "the order first", knowing(1, l...), api.ErrForm)
	l[1].Time = -1
	checkWrong(t, "the order and the numbers of one", knowing(1, l...), api.ErrRange)
	checkWrong(t, "nothing at all", api.Client{}, api.ErrName)
}

// G1: a frozen client is none the worse for it, and a new one is not frozen.
func TestFrozenIsNotWrong(t *testing.T) {
	c := knowing(1, numbered(3)...)
	c.Frozen = true
	checkWrong(t, "frozen", c, api.OK)
	if c, err := New("b", 1, numbered(1)[0]); err != api.OK || c.Frozen {
		t.Errorf("%v and %d come", c, err)
	}
}

// G1
func TestAtEachHeight(t *testing.T) {
	l := numbered(30)
	for i := range l {
		l[i].Height = 3 * (i + 1)
	}
	c := knowing(1, l...)
	for height := -1; height < 100; height++ {
		k, there := At(c, height)
		var want api.Known
		if height > 0 && height%3 == 0 && height <= 90 {
			want = l[height/3-1]
		}
		if there != (want.Height > 0) || !sameKnown(k, want) {
			t.Errorf("%d: %v and %v come", height, k, there)
		}
	}
	c.Frozen = true
	if k, there := At(c, 6); !there || !sameKnown(k, l[1]) {
		t.Error("a frozen client knows no more what it knew")
	}
}

// G1: of clients that are wrong as well.
func TestAtOfWrongClients(t *testing.T) {
	odd := api.Client{Known: []api.Known{
		{Height: 5, Time: 1, Root: []byte("one")},
		{Height: 2, Time: -2, Next: []byte("two")},
		{Height: 5, Time: 3},
		{Height: math.MinInt},
		{},
	}}
	for height, want := range map[int]int{5: 0, 2: 1, math.MinInt: 3, 0: 4} {
		if k, there := At(odd, height); !there || !sameKnown(k, odd.Known[want]) {
			t.Errorf("%d: %v and %v come", height, k, there)
		}
	}
	for _, c := range []api.Client{odd, {}, knowing(1, []api.Known{}...)} {
		if k, there := At(c, 4); there || !sameKnown(k, api.Known{}) {
			t.Errorf("%v and %v come", k, there)
		}
	}
}

func checkActive(t *testing.T, name string, c api.Client, now int, want bool) {
	t.Helper()
	if Wrong(c) != api.OK || now < 0 || now > api.MaxNum {
		t.Fatalf("%s: nothing is promised of these", name)
	}
	if Active(c, now) != want {
		t.Errorf("%s: %v doesn't come", name, want)
	}
}

// G1: the document's example first.
func TestHowLongClientsAreActive(t *testing.T) {
	at := func(trust int, times ...int) api.Client {
		l := numbered(len(times))
		for i, n := range times {
			l[i].Time = n
		}
		return knowing(trust, l...)
	}
	checkActive(t, "the last moment", at(10, 5), 14, true)
	checkActive(t, "too late", at(10, 5), 15, false)
	checkActive(t, "far too late", at(10, 5), api.MaxNum, false)
	checkActive(t, "just then", at(10, 5), 5, true)
	checkActive(t, "ahead of it", at(10, 5), 0, true)
	checkActive(t, "the shortest trust", at(1, 5), 5, true)
	checkActive(t, "the shortest trust, and late", at(1, 5), 6, false)
	checkActive(t, "the longest trust", at(api.MaxNum, 1), api.MaxNum, true)
	checkActive(t, "the longest trust, and late", at(api.MaxNum, 0), api.MaxNum, false)
	checkActive(t, "as late as may be", at(api.MaxNum, api.MaxNum), api.MaxNum, true)
	checkActive(t, "by the last one", at(10, 1, 2, 5), 14, true)
	checkActive(t, "by the last one, and late", at(10, 1, 2, 5), 15, false)
	checkActive(t, "by the last one, not the latest", at(10, 90, 5), 14, true)
	checkActive(t, "by the last one, not the latest, and late", at(10, 90, 5), 15, false)
	frozen := at(10, 5)
	frozen.Frozen = true
	for _, now := range []int{0, 5, 14, 15} {
		checkActive(t, "frozen", frozen, now, false)
	}
}

// G1: nothing is promised of others, but that they are answered.
func TestActiveOfAnything(t *testing.T) {
	for _, c := range []api.Client{{}, {Trust: 5}, knowing(5, []api.Known{}...), knowing(math.MinInt, api.Known{Time: math.MaxInt}), knowing(math.MaxInt, api.Known{Time: math.MinInt})} {
		for _, now := range []int{math.MinInt, -1, 0, 1, math.MaxInt} {
			Active(c, now)
		}
	}
}
