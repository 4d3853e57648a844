package chans

import (
	"math/rand"
	"slices"
	"testing"

	"landbridge/api"
	"landbridge/client"
	"landbridge/conn"
	"landbridge/header"
	"landbridge/proof"
	"landbridge/seal"
	"landbridge/state"
)

// chain is a state, and what others may see of it: its last block that ended.
type chain struct {
	s      api.State
	signed api.Signed
	pairs  []api.Pair
}

// pairOfChains follow each other, and have two open connections: the one's 0 is the other one's 1.
func pairOfChains(t testing.TB) [2]*chain {
	t.Helper()
	both := [2]*chain{{s: api.State{Name: "a", Height: 1, Time: 1}}, {s: api.State{Name: "b", Height: 1, Time: 1}}}
	for _, c := range both {
		c.end(t)
	}
	for i, c := range both {
		h := both[1-i].signed.Header
		follower, err := client.New(h.Chain, 1000, api.Known{Height: h.Height, Time: h.Time, Root: h.Root, Next: h.Next})
		if err != api.OK {
			t.Fatal(err)
		}
		c.s.Clients = []api.Client{follower}
	}
	link(t, both)
	return both
}

// link lets both begin a connection, and both answer the other one's.
func link(t testing.TB, both [2]*chain) {
	t.Helper()
	each := func(do func(own, other *chain) (api.State, api.Errno)) {
		for i, own := range both {
			s, err := do(own, both[1-i])
			if err != api.OK {
				t.Fatalf("%s: %d comes", own.s.Name, err)
			}
			own.s = s
		}
		tick(t, both)
	}
	each(func(own, other *chain) (api.State, api.Errno) {
		s, _, err := conn.Init(own.s, 0, 0)
		return s, err
	})
	each(func(own, other *chain) (api.State, api.Errno) {
		s, _, err := conn.Try(own.s, 0, 0, 0, other.show(state.ConnKey(0)))
		return s, err
	})
	each(func(own, other *chain) (api.State, api.Errno) {
		return conn.Ack(own.s, 0, 1, other.show(state.ConnKey(1)))
	})
	each(func(own, other *chain) (api.State, api.Errno) {
		return conn.Confirm(own.s, 1, other.show(state.ConnKey(0)))
	})
}

// end ends a block: what stands now can be shown from now on.
func (c *chain) end(t testing.TB) {
	t.Helper()
	seed := []byte(c.s.Name)
	vals := []api.Val{{Key: seal.Key(seed), Power: 1}}
	root, err := state.Root(c.s)
	if err != api.OK {
		t.Fatal(err)
	}
	told := header.Digest(vals)
	h := api.Header{Chain: c.s.Name, Height: c.s.Height, Time: c.s.Time, Root: root, Vals: told, Next: told}
	if c.signed, err = header.Sign(h, vals, [][]byte{seed}); err != api.OK {
		t.Fatal(err)
	}
	c.pairs, _ = state.Book(c.s)
	c.s.Height++
	c.s.Time++
}

// follow shows the other chain's last block to the client.
func (c *chain) follow(t testing.TB, other *chain) {
	t.Helper()
	old := c.s.Clients[0]
	u := api.Update{From: old.Known[len(old.Known)-1].Height, Signed: other.signed}
	follower, err := client.Follow(old, u, c.s.Time)
	if err != api.OK || follower.Frozen {
		t.Fatalf("%s: %d, %v", c.s.Name, err, follower.Frozen)
	}
	c.s.Clients = []api.Client{follower}
}

// tick ends a block of each chain, and lets both follow.
func tick(t testing.TB, both [2]*chain) {
	t.Helper()
	for _, c := range both {
		c.end(t)
	}
	for i, c := range both {
		c.follow(t, both[1-i])
	}
}

// show tells of what stands under a key as the chain's last block had it.
func (c *chain) show(key []byte) api.Shown {
	p, _ := proof.Show(c.pairs, key)
	return api.Shown{Height: c.signed.Header.Height, Proof: p}
}

func (c *chain) showChan(n int) api.Shown { return c.show([]byte(keyText(n))) }

// take makes what a call answers the chain's state, if it made a channel with that number.
func (c *chain) take(t *testing.T, wantN int) func(s api.State, n int, err api.Errno) {
	return func(s api.State, n int, err api.Errno) {
		t.Helper()
		if err != api.OK || n != wantN {
			t.Fatalf("%s: number %d and error %d come", c.s.Name, n, err)
		}
		c.s = s
	}
}

// takeOn is for calls that go on with a channel.
func (c *chain) takeOn(t *testing.T) func(s api.State, err api.Errno) {
	return func(s api.State, err api.Errno) {
		t.Helper()
		c.take(t, 0)(s, 0, err)
	}
}

// refused is for calls that must not come to anything.
func refused(t *testing.T, note string, want api.Errno) func(s api.State, err api.Errno) {
	return func(s api.State, err api.Errno) {
		t.Helper()
		if err != want || tell(s) != tell(api.State{}) {
			t.Errorf("%s: %v and %d come, not %d", note, s, err, want)
		}
	}
}

// met: who is open, or was, has another end that is turned to him, ordered as he is, and has at least answered.
func met(both [2]*chain) bool {
	for side, c := range both {
		for i, own := range c.s.Chans {
			if own.State < api.ChOpen {
				continue
			}
			other, there := entry(both[1-side].s.Chans, own.OtherChan)
			over := c.s.Conns[own.Conn].OtherConn
			if !there || other.State < api.ChTry || other.Ordered != own.Ordered || other.Conn != over || other.OtherChan != i {
				return false
			}
		}
	}
	return true
}

// opened are two chains with one channel, open: a's 0, b's 1.
func opened(t *testing.T, ordered bool) [2]*chain {
	both := pairOfChains(t)
	a, b := both[0], both[1]
	// Another channel first, so that the two numbers are unlike.
	b.take(t, 0)(Init(b.s, 0, !ordered))
	a.take(t, 0)(Init(a.s, 1, ordered))
	tick(t, both)
	b.take(t, 1)(Try(b.s, 0, ordered, 0, a.showChan(0)))
	tick(t, both)
	a.takeOn(t)(Ack(a.s, 0, 1, b.showChan(1)))
	tick(t, both)
	b.takeOn(t)(Confirm(b.s, 1, a.showChan(0)))
	return both
}

// J1 and J2: from the beginning to the end, by real blocks.
func TestHandshake(t *testing.T) {
	for _, ordered := range []bool{false, true} {
		both := opened(t, ordered)
		a, b := both[0], both[1]
		wantA := api.Chan{State: api.ChOpen, Ordered: ordered, Conn: 1, OtherChan: 1, Send: 1, Recv: 1, Ack: 1}
		wantB := api.Chan{State: api.ChOpen, Ordered: ordered, Conn: 0, OtherChan: 0, Send: 1, Recv: 1, Ack: 1}
		if a.s.Chans[0] != wantA || b.s.Chans[1] != wantB || !met(both) {
			t.Errorf("%v and %v come", a.s.Chans, b.s.Chans)
		}
		refused(t, "once more", api.ErrState)(Ack(a.s, 0, 1, b.showChan(1)))
		refused(t, "once more", api.ErrState)(Confirm(b.s, 1, a.showChan(0)))
		a.takeOn(t)(Close(a.s, 0))
		refused(t, "ahead of the block's end", api.ErrProof)(Closed(b.s, 1, a.showChan(0)))
		tick(t, both)
		b.takeOn(t)(Closed(b.s, 1, a.showChan(0)))
		refused(t, "once more", api.ErrState)(Closed(b.s, 1, a.showChan(0)))
		refused(t, "once more", api.ErrState)(Close(a.s, 0))
		wantA.State, wantB.State = api.ChClosed, api.ChClosed
		if a.s.Chans[0] != wantA || b.s.Chans[1] != wantB || !met(both) {
			t.Errorf("%v and %v come", a.s.Chans, b.s.Chans)
		}
	}
}

// J1: nobody goes on ahead of what he waits for, nor over another connection than the other end's.
func TestNobodyIsAhead(t *testing.T) {
	both := pairOfChains(t)
	a, b := both[0], both[1]
	tried := func(i int, ordered bool) (api.State, api.Errno) {
		s, _, err := Try(b.s, i, ordered, 0, a.showChan(0))
		return s, err
	}
	a.take(t, 0)(Init(a.s, 1, true))
	refused(t, "ahead of the block's end", api.ErrProof)(tried(0, true))
	tick(t, both)
	refused(t, "over another connection", api.ErrProof)(tried(1, true))
	refused(t, "not ordered", api.ErrProof)(tried(0, false))
	b.take(t, 0)(Try(b.s, 0, true, 0, a.showChan(0)))
	refused(t, "ahead of the block's end", api.ErrProof)(Ack(a.s, 0, 0, b.showChan(0)))
	tick(t, both)
	refused(t, "ahead of the other end", api.ErrProof)(Confirm(b.s, 0, a.showChan(0)))
	refused(t, "closed while it waits", api.ErrState)(Close(a.s, 0))
	refused(t, "closed while it waits", api.ErrState)(Close(b.s, 0))
	a.takeOn(t)(Ack(a.s, 0, 0, b.showChan(0)))
	tick(t, both)
	refused(t, "the other end is open", api.ErrState)(Closed(b.s, 0, a.showChan(0)))
	b.takeOn(t)(Confirm(b.s, 0, a.showChan(0)))
	refused(t, "the other end is open", api.ErrProof)(Closed(b.s, 0, a.showChan(0)))
}

// J1: who closes ahead of the confirmation is confirmed by what was, and closed by what is.
func TestClosedAheadOfTheConfirmation(t *testing.T) {
	both := pairOfChains(t)
	a, b := both[0], both[1]
	a.take(t, 0)(Init(a.s, 0, false))
	tick(t, both)
	b.take(t, 0)(Try(b.s, 1, false, 0, a.showChan(0)))
	tick(t, both)
	a.takeOn(t)(Ack(a.s, 0, 0, b.showChan(0)))
	tick(t, both)
	was := a.showChan(0)
	a.takeOn(t)(Close(a.s, 0))
	tick(t, both)
	refused(t, "closed", api.ErrProof)(Confirm(b.s, 0, a.showChan(0)))
	b.takeOn(t)(Confirm(b.s, 0, was))
	refused(t, "open once", api.ErrProof)(Closed(b.s, 0, was))
	b.takeOn(t)(Closed(b.s, 0, a.showChan(0)))
	if a.s.Chans[0].State != api.ChClosed || b.s.Chans[0].State != api.ChClosed || !met(both) {
		t.Errorf("%v and %v come", a.s.Chans, b.s.Chans)
	}
}

// J1: one that was begun may be answered twice, but goes on with one of them alone.
func TestAnsweredTwice(t *testing.T) {
	both := pairOfChains(t)
	a, b := both[0], both[1]
	a.take(t, 0)(Init(a.s, 0, true))
	tick(t, both)
	b.take(t, 0)(Try(b.s, 1, true, 0, a.showChan(0)))
	b.take(t, 1)(Try(b.s, 1, true, 0, a.showChan(0)))
	tick(t, both)
	a.takeOn(t)(Ack(a.s, 0, 1, b.showChan(1)))
	tick(t, both)
	refused(t, "the other one", api.ErrProof)(Confirm(b.s, 0, a.showChan(0)))
	b.takeOn(t)(Confirm(b.s, 1, a.showChan(0)))
	if b.s.Chans[0].State != api.ChTry || !met(both) {
		t.Errorf("%v and %v come", a.s.Chans, b.s.Chans)
	}
}

// askedByChance is a call that may do some good on that side: proofs are of what the other chain last had.
func askedByChance(random *rand.Rand, own, other *chain) call {
	x := call{
		name: []string{"Init", "Try", "Try", "Ack", "Ack", "Ack", "Confirm", "Confirm", "Close", "Closed"}[random.Intn(10)], s: own.s,
		i: random.Intn(len(own.s.Chans) + 1), other: random.Intn(len(other.s.Chans) + 1), ordered: random.Intn(2) == 0,
	}
	theirs, there := entry(other.s.Chans, x.other)
	if !goesOn(x.name) {
		x.i = random.Intn(3)
	}
	if there && random.Intn(4) > 0 {
		switch x.name {
		case "Try":
			x.i, x.ordered = other.s.Conns[theirs.Conn].OtherConn, theirs.Ordered
		case "Ack":
			x.i = theirs.OtherChan
		}
	}
	x.p = other.showChan(x.other)
	if end, there := entry(own.s.Chans, x.i); there && (x.name == "Confirm" || x.name == "Closed") {
		x.p = other.showChan(end.OtherChan)
	}
	return x
}

// staysClosed answers whether what was closed is still as it was.
func staysClosed(before, now []api.Chan) bool {
	for i, c := range before {
		if c.State == api.ChClosed && now[i] != c {
			return false
		}
	}
	return true
}

// J1 and J2: whatever is asked for, in whatever order: all is as the reference says, who is open is met, and who is closed stays so.
func TestWhoIsOpenIsMet(t *testing.T) {
	random := rand.New(rand.NewSource(10))
	count := map[int]int{}
	for range 30 {
		both := pairOfChains(t)
		for range 200 {
			side := random.Intn(2)
			own := both[side]
			before := slices.Clone(own.s.Chans)
			if s, _, err := checkCall(t, "by chance", askedByChance(random, own, both[1-side])); err == api.OK {
				own.s = s
			}
			if !met(both) || !staysClosed(before, own.s.Chans) {
				t.Fatalf("%v and %v come", both[0].s.Chans, both[1].s.Chans)
			}
			if random.Intn(3) == 0 {
				tick(t, both)
			}
		}
		for _, c := range both[0].s.Chans {
			count[c.State]++
		}
	}
	if count[api.ChOpen] < 10 || count[api.ChClosed] < 30 {
		t.Errorf("of each kind there are %v: too few tell anything", count)
	}
}
