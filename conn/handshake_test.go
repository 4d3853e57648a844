package conn

import (
	"math/rand"
	"testing"

	"landbridge/api"
	"landbridge/client"
	"landbridge/header"
	"landbridge/proof"
	"landbridge/seal"
	"landbridge/state"
)

// chain is a state, and what others may see of it: its last block that ended.
type chain struct {
	s      api.State
	signed api.Signed
	pairs  []api.Pair
}

// pairOfChains follow each other, each by two clients.
func pairOfChains(t testing.TB) [2]*chain {
	t.Helper()
	both := [2]*chain{{s: api.State{Name: "a", Height: 1, Time: 1}}, {s: api.State{Name: "b", Height: 1, Time: 1}}}
	for _, c := range both {
		c.end(t)
	}
	for i, c := range both {
		h := both[1-i].signed.Header
		for range 2 {
			follower, err := client.New(h.Chain, 1000, api.Known{Height: h.Height, Time: h.Time, Root: h.Root, Next: h.Next})
			if err != api.OK {
				t.Fatal(err)
			}
			c.s.Clients = append(c.s.Clients, follower)
		}
	}
	return both
}

// end ends a block: what stands now can be shown from now on.
func (c *chain) end(t testing.TB) {
	t.Helper()
	seed := []byte(c.s.Name)
	vals := []api.Val{{Key: seal.Key(seed), Power: 1}}
	root, err := state.Root(c.s)
	if err != api.OK {
		t.Fatal(err)
	}
	told := header.Digest(vals)
	h := api.Header{Chain: c.s.Name, Height: c.s.Height, Time: c.s.Time, Root: root, Vals: told, Next: told}
	if c.signed, err = header.Sign(h, vals, [][]byte{seed}); err != api.OK {
		t.Fatal(err)
	}
	c.pairs, _ = state.Book(c.s)
	c.s.Height++
	c.s.Time++
}

// follow shows the other chain's last block to all clients.
func (c *chain) follow(t testing.TB, other *chain) {
	t.Helper()
	for i, old := range c.s.Clients {
		u := api.Update{From: old.Known[len(old.Known)-1].Height, Signed: other.signed}
		follower, err := client.Follow(old, u, c.s.Time)
		if err != api.OK || follower.Frozen {
			t.Fatalf("client %d: %d, %v", i, err, follower.Frozen)
		}
		c.s.Clients[i] = follower
	}
}

// tick ends a block of each chain, and lets both follow.
func tick(t testing.TB, both [2]*chain) {
	t.Helper()
	for _, c := range both {
		c.end(t)
	}
	for i, c := range both {
		c.follow(t, both[1-i])
	}
}

// show tells of connection n as the other chain's last block had it.
func (c *chain) show(n int) api.Shown {
	p, _ := proof.Show(c.pairs, state.ConnKey(n))
	return api.Shown{Height: c.signed.Header.Height, Proof: p}
}

// take makes what a call answers the chain's state, if it made a connection with that number.
func (c *chain) take(t *testing.T, wantN int) func(s api.State, n int, err api.Errno) {
	return func(s api.State, n int, err api.Errno) {
		t.Helper()
		if err != api.OK || n != wantN {
			t.Fatalf("%s: number %d and error %d come", c.s.Name, n, err)
		}
		c.s = s
	}
}

func (c *chain) takeOpen(t *testing.T) func(s api.State, err api.Errno) {
	return func(s api.State, err api.Errno) {
		t.Helper()
		c.take(t, 0)(s, 0, err)
	}
}

// met: who is open has another end that is turned to him, and has at least answered.
func met(both [2]*chain) bool {
	for side, c := range both {
		for i, own := range c.s.Conns {
			if own.State != api.CoOpen {
				continue
			}
			other, there := entry(both[1-side].s.Conns, own.OtherConn)
			turned := other == api.Conn{State: other.State, Client: own.OtherClient, OtherClient: own.Client, OtherConn: i}
			if !there || other.State == api.CoInit || !turned {
				return false
			}
		}
	}
	return true
}

// I1 and I2: from the beginning to the end, by real blocks.
func TestHandshake(t *testing.T) {
	both := pairOfChains(t)
	a, b := both[0], both[1]
	// Another connection first, so that the two numbers are unlike.
	b.take(t, 0)(Init(b.s, 1, 1))
	a.take(t, 0)(Init(a.s, 0, 1))
	if _, _, err := Try(b.s, 1, 0, 0, a.show(0)); err != api.ErrProof {
		t.Errorf("ahead of the block's end: %d comes", err)
	}
	tick(t, both)
	b.take(t, 1)(Try(b.s, 1, 0, 0, a.show(0)))
	tick(t, both)
	if _, err := Confirm(b.s, 1, a.show(0)); err != api.ErrProof {
		t.Errorf("ahead of what it waits for: %d comes", err)
	}
	a.takeOpen(t)(Ack(a.s, 0, 1, b.show(1)))
	if _, err := Ack(a.s, 0, 1, b.show(1)); err != api.ErrState {
		t.Errorf("once more: %d comes", err)
	}
	tick(t, both)
	b.takeOpen(t)(Confirm(b.s, 1, a.show(0)))
	if _, err := Confirm(b.s, 1, a.show(0)); err != api.ErrState {
		t.Errorf("once more: %d comes", err)
	}
	if a.s.Conns[0] != (api.Conn{State: api.CoOpen, Client: 0, OtherClient: 1, OtherConn: 1}) || b.s.Conns[1] != (api.Conn{State: api.CoOpen, Client: 1, OtherClient: 0, OtherConn: 0}) || !met(both) {
		t.Errorf("%v and %v come", a.s.Conns, b.s.Conns)
	}
}

// I1 and I2: both begin, and both answer: two connections come of it.
func TestHandshakesThatCross(t *testing.T) {
	both := pairOfChains(t)
	for _, c := range both {
		c.take(t, 0)(Init(c.s, 0, 0))
	}
	tick(t, both)
	for i, c := range both {
		c.take(t, 1)(Try(c.s, 0, 0, 0, both[1-i].show(0)))
	}
	tick(t, both)
	for i, c := range both {
		c.takeOpen(t)(Ack(c.s, 0, 1, both[1-i].show(1)))
	}
	tick(t, both)
	for i, c := range both {
		c.takeOpen(t)(Confirm(c.s, 1, both[1-i].show(0)))
	}
	for _, c := range both {
		for i, own := range c.s.Conns {
			if own != (api.Conn{State: api.CoOpen, OtherConn: 1 - i}) {
				t.Errorf("%s: %v comes", c.s.Name, c.s.Conns)
			}
		}
	}
	if !met(both) {
		t.Error("they don't meet")
	}
}

// I1: one that was begun may be answered twice, but goes on with one of them alone.
func TestAnsweredTwice(t *testing.T) {
	both := pairOfChains(t)
	a, b := both[0], both[1]
	a.take(t, 0)(Init(a.s, 0, 0))
	tick(t, both)
	b.take(t, 0)(Try(b.s, 0, 0, 0, a.show(0)))
	b.take(t, 1)(Try(b.s, 0, 0, 0, a.show(0)))
	tick(t, both)
	a.takeOpen(t)(Ack(a.s, 0, 1, b.show(1)))
	tick(t, both)
	if _, err := Confirm(b.s, 0, a.show(0)); err != api.ErrProof {
		t.Errorf("of the other one %d comes", err)
	}
	b.takeOpen(t)(Confirm(b.s, 1, a.show(0)))
	if b.s.Conns[0].State != api.CoTry || !met(both) {
		t.Errorf("%v and %v come", a.s.Conns, b.s.Conns)
	}
}

// askedByChance is a call that may do some good on that side: proofs are of what the other chain last had.
func askedByChance(random *rand.Rand, own, other *chain) call {
	x := call{
		name: []string{"Init", "Try", "Try", "Ack", "Ack", "Ack", "Confirm", "Confirm"}[random.Intn(8)], s: own.s, c: random.Intn(2), other: random.Intn(2),
		i: random.Intn(len(own.s.Conns) + 1), otherConn: random.Intn(len(other.s.Conns) + 1),
	}
	if theirs, there := entry(other.s.Conns, x.otherConn); there && random.Intn(4) > 0 {
		x.c, x.other = theirs.OtherClient, theirs.Client
	}
	x.p = other.show(x.otherConn)
	if end, there := entry(own.s.Conns, x.i); there && x.name == "Confirm" {
		x.p = other.show(end.OtherConn)
	}
	return x
}

// I1 and I2: whatever is asked for, in whatever order: all is as the reference says, and who is open is met.
func TestWhoIsOpenIsMet(t *testing.T) {
	random := rand.New(rand.NewSource(9))
	opened := 0
	for range 30 {
		both := pairOfChains(t)
		for range 200 {
			side := random.Intn(2)
			own := both[side]
			if s, _, err := checkCall(t, "by chance", askedByChance(random, own, both[1-side])); err == api.OK {
				own.s = s
			}
			if !met(both) {
				t.Fatalf("%v and %v come", both[0].s.Conns, both[1].s.Conns)
			}
			if random.Intn(3) == 0 {
				tick(t, both)
			}
		}
		for _, c := range both[0].s.Conns {
			if c.State == api.CoOpen {
				opened++
			}
		}
	}
	if opened < 30 {
		t.Errorf("%d are open: too few tell anything", opened)
	}
}
