package bridge

import (
	"fmt"
	"math"
	"testing"

	"landbridge/api"
	"landbridge/header"
	"landbridge/seal"
	"landbridge/state"
)

// play is for what must not be too many.
func play(t testing.TB, l ...api.Ev) (api.World, []api.Done) {
	t.Helper()
	told(l).check(t)
	w, done, err := Play(l)
	if err != api.OK {
		t.Fatalf("%d comes", err)
	}
	return w, done
}

// checkDone holds what comes of each event against errors and numbers that must.
func checkDone(t *testing.T, note string, l []api.Ev, want ...api.Done) api.World {
	t.Helper()
	w, done := play(t, l...)
	if tell(done) != tell(want) {
		t.Errorf("%s: %+v comes, not %+v", note, done, want)
	}
	return w
}

func failed(err api.Errno) api.Done { return api.Done{Err: err} }

func numbered(n int) api.Done { return api.Done{Num: n} }

// beginning is how it stands with both chains at first.
func beginning() api.World {
	return api.World{
		Left:  api.State{Name: "a", Height: 1, Time: 1, Purses: []api.Purse{{Owner: "ann", Denom: "gold", Amount: 1000}}},
		Right: api.State{Name: "b", Height: 1, Time: 1, Purses: []api.Purse{{Owner: "bob", Denom: "silver", Amount: 1000}}},
	}
}

// N1: at first, and where nothing happens.
func TestBeginning(t *testing.T) {
	for _, l := range [][]api.Ev{nil, {}, {{}, {Kind: 6}, {Kind: api.EvBlock, Side: 2, Later: 1}}} {
		if w, _ := play(t, l...); tell(w) != tell(beginning()) {
			t.Errorf("%+v comes", w)
		}
	}
}

// N1: how much may happen, whatever it is.
func TestTooMuchHappens(t *testing.T) {
	for _, e := range []api.Ev{{}, {Side: -1}, ends(0), ends(1)} {
		for _, n := range []int{119, 120, 121, 122, 1000} {
			l := make([]api.Ev, n)
			for i := range l {
				l[i] = e
			}
			w, done, err := Play(l)
			if n > 120 {
				if tell(w) != tell(api.World{}) || len(done) != 0 || err != api.ErrMany {
					t.Errorf("%d: %+v, %+v and %d come", n, w, done, err)
				}
				continue
			}
			if len(done) != n || err != api.OK {
				t.Errorf("%d: %d, and %d come", n, len(done), err)
			}
			told(l).check(t)
		}
	}
}

// N1: no such side, or no such kind; then nothing happens.
func TestNoSuchSideOrKind(t *testing.T) {
	odd := []int{-1, 2, 3, 1 << 32, math.MinInt, math.MaxInt}
	for _, n := range odd {
		for kind := range 7 {
			w := checkDone(t, fmt.Sprintf("side %d, kind %d", n, kind), []api.Ev{{Kind: kind, Side: n, Later: 1, Trust: 5}}, failed(api.ErrKind))
			if tell(w) != tell(beginning()) {
				t.Errorf("side %d, kind %d: %+v comes", n, kind, w)
			}
		}
	}
	for _, kind := range []int{-1, 0, 6, 7, 1<<32 + 1, math.MinInt, math.MaxInt} {
		for side := range 2 {
			w := checkDone(t, fmt.Sprintf("kind %d", kind), []api.Ev{{Kind: kind, Side: side, Later: 1, Trust: 5, Msg: api.Msg{Kind: api.MsgGive}}}, failed(api.ErrKind))
			if tell(w) != tell(beginning()) {
				t.Errorf("kind %d: %+v comes", kind, w)
			}
		}
	}
}

// N1: one thing after the other, each on its side alone.
func TestOneThingAfterTheOther(t *testing.T) {
	give := func(side int, denom, sender string, n uint64) api.Ev {
		return ask(side, api.Msg{Kind: api.MsgGive, Transfer: api.Transfer{Denom: denom, Amount: n, Sender: sender, Reader: "eve"}})
	}
	l := []api.Ev{
		give(0, "gold", "ann", 600), give(0, "gold", "ann", 600), give(0, "gold", "ann", 400), give(0, "gold", "ann", 1),
		give(1, "gold", "ann", 1), give(1, "silver", "bob", 1001), give(1, "silver", "bob", 7),
	}
	w := checkDone(t, "gifts", l, failed(0), failed(api.ErrFit), failed(0), failed(api.ErrFit), failed(api.ErrFit), failed(api.ErrFit), failed(0))
	want := beginning()
	want.Left.Purses = []api.Purse{{Owner: "eve", Denom: "gold", Amount: 1000}}
	want.Right.Purses = []api.Purse{{Owner: "bob", Denom: "silver", Amount: 993}, {Owner: "eve", Denom: "silver", Amount: 7}}
	if tell(w) != tell(want) {
		t.Errorf("%+v comes, not %+v", w, want)
	}
}

// N2: blocks end, and are counted by chain; what makes an error ends none.
func TestBlocks(t *testing.T) {
	l := []api.Ev{
		{Kind: api.EvBlock, Later: 1}, {Kind: api.EvBlock, Later: 0}, {Kind: api.EvBlock, Later: 5}, {Kind: api.EvBlock, Later: -1},
		{Kind: api.EvBlock, Side: 1, Later: api.MaxNum}, {Kind: api.EvBlock, Side: 1, Later: api.MaxNum - 1}, {Kind: api.EvBlock, Side: 1, Later: 1},
		{Kind: api.EvBlock, Later: api.MaxNum + 1}, {Kind: api.EvBlock, Later: math.MaxInt}, {Kind: api.EvBlock, Later: math.MinInt}, {Kind: api.EvBlock, Later: 2},
	}
	bad := failed(api.ErrRange)
	w := checkDone(t, "blocks", l, numbered(1), bad, numbered(2), bad, bad, numbered(1), bad, bad, bad, bad, numbered(3))
	want := beginning()
	want.Left.Height, want.Left.Time = 4, 9
	want.Right.Height, want.Right.Time = 2, api.MaxNum
	if tell(w) != tell(want) {
		t.Errorf("%+v comes, not %+v", w, want)
	}
}

// N1 and N2: what a header tells, as a client of it knows it: the state ahead of the next block, and who votes.
func TestWhatHeadersTell(t *testing.T) {
	for side, name := range []string{"a", "b"} {
		other := 1 - side
		l := []api.Ev{
			{Kind: api.EvBlock, Side: side, Later: 7},
			{Kind: api.EvClient, Side: other, Trust: 50},
			{Kind: api.EvBlock, Side: other, Later: 3},
			{Kind: api.EvClient, Side: side, Trust: 50},
			ask(side, api.Msg{Kind: api.MsgConnInit, Other: 4}),
			{Kind: api.EvBlock, Side: side, Later: 4},
			{Kind: api.EvClient, Side: other, Trust: 60},
			{Kind: api.EvBlock, Side: side, Later: 1},
		}
		w := checkDone(t, name, l, numbered(1), numbered(0), numbered(1), numbered(0), numbered(0), numbered(2), numbered(1), numbered(3))
		clients := []api.State{w.Right, w.Left}[side].Clients
		root := func(s api.State) []byte {
			out, _ := state.Root(s)
			return out
		}
		empty := root(api.State{Name: "x"})
		begun := root(api.State{Name: "x", Conns: []api.Conn{{State: api.CoInit, OtherClient: 4, OtherConn: -1}}})
		told := header.Digest(valsOf(name))
		want := []api.Client{
			{Chain: name, Trust: 50, Known: []api.Known{{Height: 1, Time: 1, Root: empty, Next: told}}},
			{Chain: name, Trust: 60, Known: []api.Known{{Height: 2, Time: 8, Root: begun, Next: told}}},
		}
		if tell(clients) != tell(want) {
			t.Errorf("%s: %+v comes, not %+v", name, clients, want)
		}
	}
}

// N1: three validators, by the keys of their seeds; who has these can vote for what has never been.
func TestValidators(t *testing.T) {
	for side, name := range []string{"a", "b"} {
		seeds := seedsOf(name)
		for note, f := range map[string]struct {
			seeds [][]byte
			want  api.Errno
		}{
			"all three": {seeds, api.OK},
			"0 and 1":   {seeds[:2], api.ErrSeal},
			"1 and 2":   {seeds[1:], api.ErrSeal},
			"none":      {nil, api.ErrSeal},
		} {
			h := headerOf(api.State{Name: name, Height: 2, Time: 3})
			m := api.Msg{Kind: api.MsgFollow, Update: api.Update{From: 1, Signed: signed(h, f.seeds...)}}
			l := []api.Ev{ends(side), {Kind: api.EvClient, Side: 1 - side, Trust: 9}, ask(1-side, m)}
			checkDone(t, name+", "+note, l, numbered(1), numbered(0), failed(f.want))
		}
		for i, v := range valsOf(name) {
			if v.Power != 1 || i > 0 && valsOf(name)[i-1].Key >= v.Key || v.Key != seal.Key(seeds[0]) && v.Key != seal.Key(seeds[1]) && v.Key != seal.Key(seeds[2]) {
				t.Errorf("%s: the test's validators are %+v", name, valsOf(name))
			}
		}
	}
}

// N2: clients of the other chain's last block that ended.
func TestClients(t *testing.T) {
	for side := range 2 {
		client := func(trust int) api.Ev { return api.Ev{Kind: api.EvClient, Side: side, Trust: trust} }
		none := failed(api.ErrNone)
		l := []api.Ev{client(5), ends(side), client(5), {Kind: api.EvBlock, Side: 1 - side}, client(5), client(0)}
		checkDone(t, "no block", l, none, numbered(1), none, failed(api.ErrRange), none, none)
		l = []api.Ev{ends(1 - side), client(0), client(-1), client(math.MinInt), client(api.MaxNum + 1), client(api.MaxNum), client(1)}
		bad := failed(api.ErrRange)
		checkDone(t, "trust", l, numbered(1), bad, bad, bad, bad, numbered(0), numbered(1))
		l = []api.Ev{ends(1 - side), client(5), client(6), client(7), client(8), client(9), client(0)}
		many := failed(api.ErrMany)
		w := checkDone(t, "many", l, numbered(1), numbered(0), numbered(1), numbered(2), numbered(3), many, many)
		clients := []api.State{w.Left, w.Right}[side].Clients
		for i, c := range clients {
			if c.Trust != 5+i || c.Chain != []string{"b", "a"}[side] {
				t.Errorf("client %d: %+v comes", i, c)
			}
		}
		if others := []api.State{w.Right, w.Left}[side].Clients; len(clients) != 4 || len(others) != 0 {
			t.Errorf("%d and %d clients come", len(clients), len(others))
		}
	}
}

// heights are those that a client knows.
func heights(c api.Client) []int {
	var out []int
	for _, k := range c.Known {
		out = append(out, k.Height)
	}
	return out
}

// N2: clients are shown the last block alone, from the last height that they know on.
func TestFollow(t *testing.T) {
	for side := range 2 {
		x := newStory()
		tick := func() { x.must(t, api.OK, ends(side)); x.must(t, api.OK, ends(1-side)) }
		x.must(t, api.ErrNone, follow(side, 0))
		tick()
		x.must(t, api.ErrNone, follow(side, 0))
		x.must(t, api.OK, api.Ev{Kind: api.EvClient, Side: side, Trust: 1000})
		x.must(t, api.OK, api.Ev{Kind: api.EvClient, Side: side, Trust: 1000})
		for _, n := range []int{-1, 2, math.MinInt, math.MaxInt} {
			x.must(t, api.ErrNone, follow(side, n))
		}
		x.must(t, api.ErrNone, follow(1-side, 0))
		x.must(t, api.ErrRange, follow(side, 0)) // it knows that height already
		tick()
		x.must(t, api.OK, follow(side, 1))
		for range 3 {
			tick()
		}
		x.must(t, api.OK, follow(side, 0)) // heights between are left out: those who are trusted vouch for it
		x.must(t, api.OK, follow(side, 1))
		tick()
		x.must(t, api.OK, follow(side, 0))
		x.must(t, api.ErrRange, follow(side, 0))
		x.check(t)
		clients := x.sides[side].now.Clients
		if tell(heights(clients[0]), heights(clients[1])) != tell([]int{1, 5, 6}, []int{1, 2, 5}) {
			t.Errorf("%v and %v come", heights(clients[0]), heights(clients[1]))
		}
	}
}

// N2: the last height that is known tells for how long it is trusted; and what a client does not believe is as it was.
func TestFollowTooLate(t *testing.T) {
	for late, want := range map[int]api.Errno{4: api.OK, 5: api.ErrTime} {
		x := newStory()
		x.must(t, api.OK, ends(1))
		x.must(t, api.OK, api.Ev{Kind: api.EvClient, Trust: 5})
		x.must(t, api.OK, ends(1))
		x.must(t, api.OK, api.Ev{Kind: api.EvFollow}) // it knows time 2
		x.must(t, api.OK, ends(1))
		x.must(t, api.OK, api.Ev{Kind: api.EvBlock, Later: late + 1})
		x.must(t, want, api.Ev{Kind: api.EvFollow})
		x.check(t)
	}
	for ahead, want := range map[int]api.Errno{10: api.OK, 11: api.ErrTime} {
		x := newStory()
		x.must(t, api.OK, ends(1))
		x.must(t, api.OK, api.Ev{Kind: api.EvClient, Trust: 50})
		x.must(t, api.OK, api.Ev{Kind: api.EvBlock, Side: 1, Later: ahead - 1})
		x.must(t, api.OK, ends(1)) // its time is so far ahead of 1
		x.must(t, want, api.Ev{Kind: api.EvFollow})
		x.check(t)
	}
}

// N2: clients of other chains, or that know something else, are shown the same.
func TestFollowByOddClients(t *testing.T) {
	odd := func(change func(m *api.Msg)) *story {
		x := newStory()
		x.must(t, api.OK, ends(1))
		m := api.Msg{Kind: api.MsgClient, Chain: "b", Trust: 50, Known: knownOf(headerOf(x.sides[1].ended[0]))}
		change(&m)
		x.must(t, api.OK, ask(0, m))
		x.must(t, api.OK, ends(1))
		return x
	}
	for note, f := range map[string]struct {
		change func(m *api.Msg)
		want   api.Errno
	}{
		"a good one":     {func(m *api.Msg) {}, api.OK},
		"another chain":  {func(m *api.Msg) { m.Chain = "c" }, api.ErrName},
		"one's own":      {func(m *api.Msg) { m.Chain = "a" }, api.ErrName},
		"others vote":    {func(m *api.Msg) { m.Known.Next = header.Digest(valsOf("a")) }, api.ErrFit},
		"a later height": {func(m *api.Msg) { m.Known.Height = 7 }, api.ErrRange},
		"a later time":   {func(m *api.Msg) { m.Known.Time = 2 }, api.ErrTime},
		"another root":   {func(m *api.Msg) { m.Known.Root = m.Known.Next }, api.OK},
	} {
		x := odd(f.change)
		if done := x.happen(api.Ev{Kind: api.EvFollow}); done.Err != f.want {
			t.Errorf("%s: %d comes, not %d", note, done.Err, f.want)
		}
		x.check(t)
	}
	x := newStory()
	x.must(t, api.OK, ask(0, api.Msg{Kind: api.MsgClient, Chain: "b", Trust: 50, Known: knownOf(headerOf(x.sides[1].now))}))
	x.must(t, api.ErrNone, api.Ev{Kind: api.EvFollow}) // there is a client, but no block
	x.check(t)
	x = odd(func(m *api.Msg) {})
	x.must(t, api.OK, api.Ev{Kind: api.EvFollow})
	h := headerOf(api.State{Name: "b", Height: 2, Time: 3})
	x.must(t, api.OK, ask(0, api.Msg{Kind: api.MsgFollow, Update: api.Update{From: 1, Signed: signed(h, seedsOf("b")...)}}))
	if !x.sides[0].now.Clients[0].Frozen {
		t.Error("two headers of one height don't freeze the client")
	}
	x.must(t, api.OK, ends(1))
	x.must(t, api.ErrState, api.Ev{Kind: api.EvFollow})
	x.check(t)
}

// N2: a message is done as it is, and what came of it is told.
func TestMessages(t *testing.T) {
	for kind := -1; kind < 20; kind++ {
		x := newStory()
		done := x.happen(ask(0, api.Msg{Kind: kind}))
		if want := kind < 1 || kind > 18; (done.Err == api.ErrKind) != want {
			t.Errorf("kind %d: %+v comes", kind, done)
		}
		x.check(t)
	}
	x := linked(t, false)
	m := api.Msg{Kind: api.MsgSend, Transfer: api.Transfer{Denom: "gold", Amount: 30, Sender: "ann", Reader: "eve"}, Timeout: 50}
	for i := range 3 {
		p := x.must(t, api.OK, ask(0, m)).Packet
		if p.Seq != i+1 || p.From != 0 || p.To != 0 || p.Timeout != 50 {
			t.Errorf("%+v comes", p)
		}
	}
	x.must(t, api.ErrFit, ask(0, api.Msg{Kind: api.MsgSend, Transfer: api.Transfer{Denom: "gold", Amount: 911, Sender: "ann", Reader: "eve"}, Timeout: 50}))
	x.check(t)
}
