package packet

import (
	"fmt"
	"math/rand"
	"slices"
	"testing"

	"landbridge/api"
	"landbridge/chans"
	"landbridge/client"
	"landbridge/conn"
	"landbridge/header"
	"landbridge/seal"
	"landbridge/state"
)

// chain is a state, and what others may see of it: its last block that ended.
type chain struct {
	s      api.State
	signed api.Signed
	pairs  []api.Pair
}

// end ends a block: what stands now can be shown from now on.
func (c *chain) end(t testing.TB) {
	t.Helper()
	seed := []byte(c.s.Name)
	vals := []api.Val{{Key: seal.Key(seed), Power: 1}}
	root, err := state.Root(c.s)
	if err != api.OK {
		t.Fatal(err)
	}
	told := header.Digest(vals)
	h := api.Header{Chain: c.s.Name, Height: c.s.Height, Time: c.s.Time, Root: root, Vals: told, Next: told}
	if c.signed, err = header.Sign(h, vals, [][]byte{seed}); err != api.OK {
		t.Fatal(err)
	}
	c.pairs, _ = state.Book(c.s)
	c.s.Height++
	c.s.Time++
}

// follow shows the other chain's last block to the client.
func (c *chain) follow(t testing.TB, other *chain) {
	t.Helper()
	old := c.s.Clients[0]
	u := api.Update{From: old.Known[len(old.Known)-1].Height, Signed: other.signed}
	follower, err := client.Follow(old, u, c.s.Time)
	if err != api.OK || follower.Frozen {
		t.Fatalf("%s: %d, %v", c.s.Name, err, follower.Frozen)
	}
	c.s.Clients = []api.Client{follower}
}

// tick ends a block of each chain, and lets both follow.
func tick(t testing.TB, both [2]*chain) {
	t.Helper()
	for _, c := range both {
		c.end(t)
	}
	for i, c := range both {
		c.follow(t, both[1-i])
	}
}

// show tells of what stands under a key, or doesn't, as the chain's last block had it.
func (c *chain) show(key []byte) api.Shown {
	return shownOf(c.pairs, c.signed.Header.Height, string(key))
}

// linked are two chains that follow each other, with an open connection and two open channels: a's 0 and b's 1 are not ordered, a's 1 and b's 0 are.
func linked(t testing.TB) [2]*chain {
	t.Helper()
	both := [2]*chain{{s: api.State{Name: "a", Height: 1, Time: 1}}, {s: api.State{Name: "b", Height: 1, Time: 1}}}
	for _, c := range both {
		c.end(t)
	}
	for i, c := range both {
		h := both[1-i].signed.Header
		follower, err := client.New(h.Chain, 1000, api.Known{Height: h.Height, Time: h.Time, Root: h.Root, Next: h.Next})
		if err != api.OK {
			t.Fatal(err)
		}
		c.s.Clients = []api.Client{follower}
	}
	a, b := both[0], both[1]
	step := func(c *chain, s api.State, err api.Errno) {
		t.Helper()
		if err != api.OK {
			t.Fatalf("%s: %d comes", c.s.Name, err)
		}
		c.s = s
	}
	made := func(c *chain) func(s api.State, n int, err api.Errno) {
		return func(s api.State, n int, err api.Errno) { t.Helper(); step(c, s, err) }
	}
	on := func(c *chain) func(s api.State, err api.Errno) {
		return func(s api.State, err api.Errno) { t.Helper(); step(c, s, err); tick(t, both) }
	}
	made(a)(conn.Init(a.s, 0, 0))
	tick(t, both)
	made(b)(conn.Try(b.s, 0, 0, 0, a.show(state.ConnKey(0))))
	tick(t, both)
	on(a)(conn.Ack(a.s, 0, 0, b.show(state.ConnKey(0))))
	on(b)(conn.Confirm(b.s, 0, a.show(state.ConnKey(0))))
	made(a)(chans.Init(a.s, 0, false))
	made(a)(chans.Init(a.s, 0, true))
	tick(t, both)
	made(b)(chans.Try(b.s, 0, true, 1, a.show(state.ChanKey(1))))
	made(b)(chans.Try(b.s, 0, false, 0, a.show(state.ChanKey(0))))
	tick(t, both)
	for i := range 2 {
		on(a)(chans.Ack(a.s, i, 1-i, b.show(state.ChanKey(1-i))))
		on(b)(chans.Confirm(b.s, 1-i, a.show(state.ChanKey(i))))
	}
	return both
}

// must makes what a call answers the chain's state.
func (c *chain) must(t *testing.T) func(s api.State, err api.Errno) {
	return func(s api.State, err api.Errno) {
		t.Helper()
		if err != api.OK {
			t.Fatalf("%s: %d comes", c.s.Name, err)
		}
		c.s = s
	}
}

func (c *chain) send(t *testing.T, i int, data string, timeout int) api.Packet {
	t.Helper()
	s, p, err := Send(c.s, i, []byte(data), timeout)
	c.must(t)(s, err)
	return p
}

// refused is for calls that must not come to anything.
func refused(t *testing.T, note string, want api.Errno) func(s api.State, err api.Errno) {
	return func(s api.State, err api.Errno) {
		t.Helper()
		if err != want || tell(s) != tell(api.State{}) {
			t.Errorf("%s: %v and %d come, not %d", note, s, err, want)
		}
	}
}

// K2 to K4: there and back, by real blocks, out of order and in order.
func TestThereAndBack(t *testing.T) {
	for i := range 2 {
		both := linked(t)
		a, b := both[0], both[1]
		p := a.send(t, i, "hello", 1000)
		if want := (api.Packet{From: i, To: 1 - i, Seq: 1, Data: []byte("hello"), Timeout: 1000}); tell(p) != tell(want) {
			t.Errorf("%v comes", p)
		}
		ack := []byte("done")
		sent := func() api.Shown { return a.show(state.SentKey(i, 1)) }
		answered := func() api.Shown { return b.show(state.AckKey(1-i, 1)) }
		refused(t, "ahead of the block's end", api.ErrProof)(Recv(b.s, p, ack, sent()))
		tick(t, both)
		refused(t, "ahead of its being received", api.ErrProof)(Ack(a.s, p, ack, answered()))
		b.must(t)(Recv(b.s, p, ack, sent()))
		refused(t, "received once more", api.ErrState)(Recv(b.s, p, ack, sent()))
		tick(t, both)
		refused(t, "received once more", api.ErrState)(Recv(b.s, p, ack, sent()))
		refused(t, "another answer", api.ErrProof)(Ack(a.s, p, []byte("no"), answered()))
		a.must(t)(Ack(a.s, p, ack, answered()))
		refused(t, "settled once more", api.ErrNone)(Ack(a.s, p, ack, answered()))
		refused(t, "settled once more", api.ErrNone)(Timeout(a.s, p, 1, answered()))
		tick(t, both)
		if len(a.s.Sent) != 0 || len(b.s.Acks) != 1 || a.s.Chans[i].State != api.ChOpen || a.s.Chans[i].Send != 2 {
			t.Errorf("%v and %v come", a.s, b.s)
		}
		if i == 1 && (a.s.Chans[i].Ack != 2 || b.s.Chans[0].Recv != 2) || i == 0 && (a.s.Chans[i].Ack != 1 || b.s.Chans[1].Recv != 1 || len(b.s.Got) != 1) {
			t.Errorf("%v and %v come", a.s, b.s)
		}
	}
}

// K3 and K4: what is too late there is not received, and comes back; in order the channel closes.
func TestTooLateThere(t *testing.T) {
	for i := range 2 {
		both := linked(t)
		a, b := both[0], both[1]
		late := b.s.Height + 1
		p := a.send(t, i, "hello", late)
		next := a.send(t, i, "next", late)
		tick(t, both)
		missing := func(seq int) api.Shown {
			if i == 1 {
				return b.show(state.NextKey(0))
			}
			return b.show(state.GotKey(1, seq))
		}
		refused(t, "late here", api.ErrTime)(Recv(b.s, p, nil, a.show(state.SentKey(i, 1))))
		refused(t, "not yet known to be late", api.ErrTime)(Timeout(a.s, p, 1, missing(1)))
		tick(t, both)
		a.must(t)(Timeout(a.s, p, 1, missing(1)))
		refused(t, "once more", api.ErrNone)(Timeout(a.s, p, 1, missing(1)))
		if want := []int{api.ChOpen, api.ChClosed}[i]; a.s.Chans[i].State != want || len(a.s.Sent) != 1 {
			t.Errorf("%v comes", a.s)
		}
		// What else was sent comes back over a closed channel, too.
		a.must(t)(Timeout(a.s, next, 1, missing(2)))
		if len(a.s.Sent) != 0 {
			t.Errorf("%v comes", a.s.Sent)
		}
		_, _, err := Send(a.s, i, nil, 1000)
		if want := []api.Errno{api.OK, api.ErrState}[i]; err != want {
			t.Errorf("%d comes", err)
		}
	}
}

// K3: in order without a gap, and else as they come.
func TestInOrder(t *testing.T) {
	for i := range 2 {
		both := linked(t)
		a, b := both[0], both[1]
		var packets []api.Packet
		for n := range 3 {
			packets = append(packets, a.send(t, i, fmt.Sprint(n), 1000))
		}
		tick(t, both)
		recv := func(n int) (api.State, api.Errno) {
			return Recv(b.s, packets[n], nil, a.show(state.SentKey(i, n+1)))
		}
		if i == 1 {
			refused(t, "the third one first", api.ErrState)(recv(2))
			for n := range 3 {
				b.must(t)(recv(n))
			}
		} else {
			for _, n := range []int{2, 0, 1} {
				b.must(t)(recv(n))
			}
		}
		tick(t, both)
		ack := func(n int) (api.State, api.Errno) {
			return Ack(a.s, packets[n], nil, b.show(state.AckKey(1-i, n+1)))
		}
		if i == 1 {
			refused(t, "the second one first", api.ErrState)(ack(1))
			a.must(t)(ack(0))
		}
		a.must(t)(ack(1))
		if got := len(a.s.Sent); got != 2-i {
			t.Errorf("%d are not settled", got)
		}
	}
}

// traffic is all that came of packets on two chains, by the side that they left, its channel and their number.
type traffic struct {
	both                     [2]*chain
	sent                     map[[3]int]api.Packet
	received, acked, expired map[[3]int]int
	last                     map[[2]int]int // of an ordered channel
	answers                  map[[3]int]string
}

// broken answers what is not as it must be, if anything is.
func (x *traffic) broken() string {
	for at := range x.sent {
		switch {
		case x.received[at] > 1:
			return "received twice"
		case x.acked[at]+x.expired[at] > 1:
			return "settled twice"
		case x.acked[at] > x.received[at]:
			return "acknowledged and not received"
		case x.received[at] > 0 && x.expired[at] > 0:
			return "received and too late"
		}
		_, waits := marked(x.both[at[0]].s.Sent)[[2]int{at[1], at[2]}]
		if waits == (x.acked[at]+x.expired[at] > 0) {
			return "neither settled nor waiting, or both"
		}
	}
	return ""
}

// pick answers one of the packets that were sent, or one that never was.
func (x *traffic) pick(random *rand.Rand, side int) ([3]int, api.Packet) {
	i := random.Intn(2)
	top := x.both[side].s.Chans[i].Send
	at := [3]int{side, i, max(1, top-random.Intn(6))}
	p, there := x.sent[at]
	if !there || random.Intn(20) == 0 {
		p = api.Packet{From: i, To: 1 - i, Seq: at[2], Data: []byte("invented"), Timeout: 1000}
	}
	return at, p
}

// happen lets one thing happen on a side, or none, and writes it down.
func (x *traffic) happen(t *testing.T, random *rand.Rand, side int) {
	own, other := x.both[side], x.both[1-side]
	from, p := x.pick(random, side)
	to, q := x.pick(random, 1-side)
	y := call{s: own.s, ack: []byte(fmt.Sprint(random.Intn(2))), data: []byte(fmt.Sprint(random.Intn(9)))}
	switch y.name = []string{"Send", "Recv", "Recv", "Ack", "Ack", "Timeout"}[random.Intn(6)]; y.name {
	case "Send":
		y.i, y.timeout = random.Intn(2), own.s.Height+1+random.Intn(6)
		if random.Intn(2) == 0 {
			y.timeout += 100
		}
	case "Recv":
		y.p, y.w = q, other.show(state.SentKey(q.From, q.Seq))
	case "Ack":
		y.p, y.w = p, other.show(state.AckKey(p.To, p.Seq))
		if random.Intn(8) > 0 {
			y.ack = []byte(x.answers[from])
		}
	case "Timeout":
		y.p, y.w, y.next = p, other.show(state.GotKey(p.To, p.Seq)), other.s.Chans[p.To].Recv
		if own.s.Chans[p.From].Ordered {
			y.w = other.show(state.NextKey(p.To))
		}
	}
	s, made, err := checkCall(t, "by chance", y)
	if err != api.OK {
		return
	}
	own.s = s
	x.write(t, y, from, to, made)
}

// write writes down what a call has brought about.
func (x *traffic) write(t *testing.T, y call, from, to [3]int, made api.Packet) {
	t.Helper()
	switch y.name {
	case "Send":
		x.sent[[3]int{from[0], made.From, made.Seq}] = made
	case "Recv":
		if tell(x.sent[to]) != tell(y.p) {
			t.Errorf("%v was received, and never sent", y.p)
		}
		x.received[to]++
		x.answers[to] = string(y.ack)
		if y.s.Chans[y.p.To].Ordered {
			if x.last[[2]int{to[0], to[1]}]++; x.last[[2]int{to[0], to[1]}] != y.p.Seq {
				t.Errorf("%v is out of order", y.p)
			}
		}
	case "Ack":
		x.acked[from]++
		if x.answers[from] != string(y.ack) {
			t.Errorf("%v was answered otherwise", y.p)
		}
	case "Timeout":
		x.expired[from]++
	}
}

// K2 to K4: whatever is asked for, in whatever order: what arrives was sent, once; nothing is both received and too late; in order, without a gap.
func TestWhatArrivesWasSent(t *testing.T) {
	random := rand.New(rand.NewSource(11))
	var received, acked, expired int
	for range 20 {
		x := &traffic{
			both: linked(t), sent: map[[3]int]api.Packet{}, answers: map[[3]int]string{}, last: map[[2]int]int{},
			received: map[[3]int]int{}, acked: map[[3]int]int{}, expired: map[[3]int]int{},
		}
		for range 300 {
			x.happen(t, random, random.Intn(2))
			if note := x.broken(); note != "" || t.Failed() {
				t.Fatalf("%s: %v and %v come", note, x.both[0].s, x.both[1].s)
			}
			if random.Intn(5) == 0 {
				tick(t, x.both)
			}
		}
		received, acked, expired = received+len(x.received), acked+len(x.acked), expired+len(x.expired)
	}
	if slices.Min([]int{received, acked, expired}) < 50 {
		t.Errorf("%d received, %d acknowledged, %d too late: too few tell anything", received, acked, expired)
	}
}
