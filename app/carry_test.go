package app

import (
	"fmt"
	"math/rand"
	"slices"
	"strings"
	"testing"

	"landbridge/api"
	"landbridge/bank"
	"landbridge/header"
	"landbridge/seal"
	"landbridge/state"
)

// chain is a state that nothing but messages and blocks change, and what others may see of it: its last block that ended.
type chain struct {
	s      api.State
	signed api.Signed
	pairs  []api.Pair
}

// do lets a message be done, which must come to something.
func (c *chain) do(t testing.TB, m api.Msg) api.Done {
	t.Helper()
	s, done := Do(c.s, m)
	if done.Err != api.OK {
		t.Fatalf("%s, kind %d: %d comes", c.s.Name, m.Kind, done.Err)
	}
	c.s = s
	return done
}

// refuses is for messages that must come to nothing.
func (c *chain) refuses(t testing.TB, m api.Msg, want api.Errno) {
	t.Helper()
	if s, done := Do(c.s, m); tell(s, done) != tell(c.s, api.Done{Err: want}) {
		t.Errorf("%s, kind %d: %+v and %+v come, not %d", c.s.Name, m.Kind, s, done, want)
	}
}

func (c *chain) vals() []api.Val { return []api.Val{{Key: seal.Key([]byte(c.s.Name)), Power: 1}} }

// end ends a block: what stands now can be shown from now on.
func (c *chain) end(t testing.TB) {
	t.Helper()
	root, err := state.Root(c.s)
	if err != api.OK {
		t.Fatal(err)
	}
	told := header.Digest(c.vals())
	h := api.Header{Chain: c.s.Name, Height: c.s.Height, Time: c.s.Time, Root: root, Vals: told, Next: told}
	if c.signed, err = header.Sign(h, c.vals(), [][]byte{[]byte(c.s.Name)}); err != api.OK {
		t.Fatal(err)
	}
	c.pairs, _ = state.Book(c.s)
	if c.s, err = Next(c.s, 1); err != api.OK {
		t.Fatal(err)
	}
}

// tick ends a block of each chain, and lets both follow.
func tick(t testing.TB, both [2]*chain) {
	t.Helper()
	for _, c := range both {
		c.end(t)
	}
	for i, c := range both {
		known := c.s.Clients[0].Known
		c.do(t, api.Msg{Kind: api.MsgFollow, Update: api.Update{From: known[len(known)-1].Height, Signed: both[1-i].signed}})
	}
}

// show tells of what stands under a key, or doesn't, as the chain's last block had it.
func (c *chain) show(key []byte) api.Shown {
	return shownOf(c.pairs, c.signed.Header.Height, string(key))
}

// linked are two chains that follow each other, with an open connection and two open channels: a's 0 and b's 1 are not ordered, a's 1 and b's 0 are.
func linked(t testing.TB) [2]*chain {
	t.Helper()
	a := &chain{s: api.State{Name: "a", Height: 1, Time: 1, Purses: []api.Purse{{Owner: "ann", Denom: "gold", Amount: 1000}}}}
	b := &chain{s: api.State{Name: "b", Height: 1, Time: 1, Purses: []api.Purse{{Owner: "bob", Denom: "silver", Amount: 1000}}}}
	both := [2]*chain{a, b}
	a.end(t)
	b.end(t)
	for i, c := range both {
		h := both[1-i].signed.Header
		c.do(t, api.Msg{Kind: api.MsgClient, Chain: h.Chain, Trust: 1000, Known: api.Known{Height: h.Height, Time: h.Time, Root: h.Root, Next: h.Next}})
	}
	step := func(c *chain, m api.Msg) {
		t.Helper()
		c.do(t, m)
		tick(t, both)
	}
	step(a, api.Msg{Kind: api.MsgConnInit})
	step(b, api.Msg{Kind: api.MsgConnTry, Shown: a.show(state.ConnKey(0))})
	step(a, api.Msg{Kind: api.MsgConnAck, Shown: b.show(state.ConnKey(0))})
	step(b, api.Msg{Kind: api.MsgConnDone, Shown: a.show(state.ConnKey(0))})
	step(a, api.Msg{Kind: api.MsgChanInit})
	step(a, api.Msg{Kind: api.MsgChanInit, Ordered: true})
	step(b, api.Msg{Kind: api.MsgChanTry, Ordered: true, OtherEnd: 1, Shown: a.show(state.ChanKey(1))})
	step(b, api.Msg{Kind: api.MsgChanTry, OtherEnd: 0, Shown: a.show(state.ChanKey(0))})
	for i := range 2 {
		step(a, api.Msg{Kind: api.MsgChanAck, End: i, OtherEnd: 1 - i, Shown: b.show(state.ChanKey(1 - i))})
		step(b, api.Msg{Kind: api.MsgChanDone, End: 1 - i, Shown: a.show(state.ChanKey(i))})
	}
	return both
}

// purses tells what somebody has, in short.
func purses(s api.State) string {
	var out []string
	for _, p := range s.Purses {
		out = append(out, fmt.Sprintf("%s %d %s", p.Owner, p.Amount, p.Denom))
	}
	return strings.Join(out, ", ")
}

func checkPurses(t *testing.T, both [2]*chain, a, b string) {
	t.Helper()
	if purses(both[0].s) != a || purses(both[1].s) != b {
		t.Errorf("%s; %s: come, not %s; %s", purses(both[0].s), purses(both[1].s), a, b)
	}
}

// M3: there, given to another, and home, by real blocks.
func TestThereAndHome(t *testing.T) {
	for i := range 2 {
		both := linked(t)
		a, b := both[0], both[1]
		carry := func(from, to *chain, p api.Packet, ack string) {
			t.Helper()
			recv := func() api.Msg {
				return api.Msg{Kind: api.MsgRecv, Packet: p, Shown: from.show(state.SentKey(p.From, p.Seq))}
			}
			settle := func() api.Msg {
				return api.Msg{Kind: api.MsgAck, Packet: p, Ack: []byte(ack), Shown: to.show(state.AckKey(p.To, p.Seq))}
			}
			to.refuses(t, recv(), api.ErrProof)
			tick(t, both)
			to.do(t, recv())
			to.refuses(t, recv(), api.ErrState)
			from.refuses(t, settle(), api.ErrProof)
			tick(t, both)
			from.do(t, settle())
			from.refuses(t, settle(), api.ErrNone)
			tick(t, both)
		}
		send := func(c *chain, end int, x api.Transfer) api.Packet {
			t.Helper()
			return c.do(t, api.Msg{Kind: api.MsgSend, End: end, Transfer: x, Timeout: 1000}).Packet
		}
		safe, came := fmt.Sprintf("#%d", i), fmt.Sprintf("%d/gold", 1-i)
		p := send(a, i, api.Transfer{Denom: "gold", Amount: 300, Sender: "ann", Reader: "bob"})
		checkPurses(t, both, safe+" 300 gold, ann 700 gold", "bob 1000 silver")
		carry(a, b, p, "1")
		checkPurses(t, both, safe+" 300 gold, ann 700 gold", "bob 300 "+came+", bob 1000 silver")
		b.do(t, api.Msg{Kind: api.MsgGive, Transfer: api.Transfer{Denom: came, Amount: 200, Sender: "bob", Reader: "eve"}})
		q := send(b, 1-i, api.Transfer{Denom: came, Amount: 200, Sender: "eve", Reader: "zed"})
		checkPurses(t, both, safe+" 300 gold, ann 700 gold", "bob 100 "+came+", bob 1000 silver")
		carry(b, a, q, "1")
		checkPurses(t, both, safe+" 100 gold, ann 700 gold, zed 200 gold", "bob 100 "+came+", bob 1000 silver")
		// A safe may be told as the reader where it is sent, but not where it arrives: it comes back.
		refused := send(a, i, api.Transfer{Denom: "gold", Amount: 50, Sender: "zed", Reader: "#0"})
		checkPurses(t, both, safe+" 150 gold, ann 700 gold, zed 150 gold", "bob 100 "+came+", bob 1000 silver")
		carry(a, b, refused, "0")
		checkPurses(t, both, safe+" 100 gold, ann 700 gold, zed 200 gold", "bob 100 "+came+", bob 1000 silver")
	}
}

// M3: what is too late is not received, and comes back; over an ordered channel that closes both ends.
func TestTooLateThere(t *testing.T) {
	for i := range 2 {
		both := linked(t)
		a, b := both[0], both[1]
		m := api.Msg{Kind: api.MsgSend, End: i, Transfer: api.Transfer{Denom: "gold", Amount: 300, Sender: "ann", Reader: "bob"}, Timeout: b.s.Height + 1}
		p := a.do(t, m).Packet
		late := func() api.Msg {
			key := state.GotKey(p.To, p.Seq)
			if i == 1 {
				key = state.NextKey(p.To)
			}
			return api.Msg{Kind: api.MsgLate, Packet: p, Next: 1, Shown: b.show(key)}
		}
		tick(t, both)
		b.refuses(t, api.Msg{Kind: api.MsgRecv, Packet: p, Shown: a.show(state.SentKey(p.From, p.Seq))}, api.ErrTime)
		a.refuses(t, late(), api.ErrTime)
		tick(t, both)
		checkPurses(t, both, fmt.Sprintf("#%d 300 gold, ann 700 gold", i), "bob 1000 silver")
		a.do(t, late())
		checkPurses(t, both, "ann 1000 gold", "bob 1000 silver")
		a.refuses(t, late(), api.ErrNone)
		closed := api.Msg{Kind: api.MsgClosed, End: 1 - i}
		tick(t, both)
		closed.Shown = a.show(state.ChanKey(i))
		if i == 0 {
			b.refuses(t, closed, api.ErrProof)
			continue
		}
		b.do(t, closed)
		a.refuses(t, api.Msg{Kind: api.MsgSend, End: i, Transfer: m.Transfer, Timeout: 1000}, api.ErrState)
	}
}

// voyage is what is on its way between two chains, by the side that it left.
type voyage struct {
	both                     [2]*chain
	away                     [2][]api.Packet
	answers                  map[string]string
	came, home, back, closed int
}

// send sends by chance what somebody has.
func (v *voyage) send(t *testing.T, pick func(n int) int, side int) {
	own := v.both[side]
	p := own.s.Purses[pick(len(own.s.Purses))]
	m := api.Msg{Kind: api.MsgSend, End: pick(2), Timeout: v.both[1-side].s.Height + 1 + pick(6)}
	if pick(2) == 0 {
		m.Timeout += 20
	}
	m.Transfer = api.Transfer{Denom: p.Denom, Amount: 1 + uint64(pick(int(p.Amount))), Sender: p.Owner, Reader: []string{"ann", "bob", "eve", "#0", "#1"}[pick(5)]}
	s, done := checkCall(t, "by chance", call{"Send", own.s, m})
	if strings.HasPrefix(p.Owner, "#") && done.Err != api.ErrName {
		t.Errorf("a safe sends: %d comes", done.Err)
	}
	own.s = s
	if done.Err == api.OK {
		v.away[side] = append(v.away[side], done.Packet)
	}
}

// give gives by chance what somebody has to somebody on the same chain.
func (v *voyage) give(t *testing.T, pick func(n int) int, side int) {
	own := v.both[side]
	p := own.s.Purses[pick(len(own.s.Purses))]
	x := api.Transfer{Denom: p.Denom, Amount: 1 + uint64(pick(int(p.Amount))), Sender: p.Owner, Reader: []string{"ann", "bob", "eve", "#0"}[pick(4)]}
	own.s, _ = checkCall(t, "by chance", call{"Give", own.s, api.Msg{Kind: api.MsgGive, Transfer: x}})
}

func (v *voyage) name(side int, p api.Packet) string { return fmt.Sprint(side, p.From, p.Seq) }

// receive lets what left a side arrive on the other one, if it may.
func (v *voyage) receive(t *testing.T, side int, p api.Packet) {
	to := v.both[1-side]
	m := api.Msg{Kind: api.MsgRecv, Packet: p, Shown: v.both[side].show(state.SentKey(p.From, p.Seq))}
	before := purses(to.s)
	s, done := checkCall(t, "by chance", call{"Recv", to.s, m})
	if to.s = s; done.Err != api.OK {
		return
	}
	v.answers[v.name(side, p)] = "1"
	if purses(s) == before {
		v.answers[v.name(side, p)] = "0"
		return
	}
	if x, _ := bank.Parse(p.Data); strings.HasPrefix(x.Denom, fmt.Sprintf("%d/", p.From)) {
		v.home++
	} else {
		v.came++
	}
}

// settle settles what left a side, if it may.
func (v *voyage) settle(t *testing.T, side int, p api.Packet) {
	own, other := v.both[side], v.both[1-side]
	ack, answered := v.answers[v.name(side, p)]
	m := api.Msg{Kind: api.MsgAck, Packet: p, Ack: []byte(ack), Shown: other.show(state.AckKey(p.To, p.Seq))}
	if !answered {
		m = api.Msg{Kind: api.MsgLate, Packet: p, Next: other.s.Chans[p.To].Recv, Shown: other.show(state.GotKey(p.To, p.Seq))}
		if own.s.Chans[p.From].Ordered {
			m.Shown = other.show(state.NextKey(p.To))
		}
	}
	s, done := checkCall(t, "by chance", call{"settle", own.s, m})
	if own.s = s; done.Err != api.OK {
		return
	}
	if ack != "1" {
		v.back++
	}
	v.away[side] = slices.DeleteFunc(v.away[side], func(q api.Packet) bool { return tell(q) == tell(p) })
}

// onTheWay is how much of that has left a side over a channel, and has neither arrived nor come back.
func (v *voyage) onTheWay(side, ch int, denom string) (sum uint64) {
	for _, p := range v.away[side] {
		if x, _ := bank.Parse(p.Data); p.From == ch && x.Denom == denom && v.answers[v.name(side, p)] != "1" {
			sum += x.Amount
		}
	}
	return sum
}

func (v *voyage) denoms() []string {
	var out []string
	for _, c := range v.both {
		for _, p := range c.s.Purses {
			out = append(out, p.Denom)
		}
	}
	slices.Sort(out)
	return slices.Compact(out)
}

// checkSafes: what a safe keeps is just what stands for it on the other chain, or is on its way there or home; and there is as much gold as ever.
func (v *voyage) checkSafes(t *testing.T) {
	t.Helper()
	for side, c := range v.both {
		for ch := range 2 {
			for _, denom := range v.denoms() {
				voucher := fmt.Sprintf("%d/%s", 1-ch, denom)
				want, _ := bank.Supply(v.both[1-side].s.Purses, voucher)
				want += v.onTheWay(1-side, 1-ch, voucher)
				if !strings.HasPrefix(denom, fmt.Sprintf("%d/", ch)) {
					want += v.onTheWay(side, ch, denom)
				}
				if got := bank.Amount(c.s.Purses, fmt.Sprintf("#%d", ch), denom); got != want {
					t.Fatalf("%s keeps %d of %s for channel %d, not %d", c.s.Name, got, denom, ch, want)
				}
			}
		}
		for _, denom := range []string{"gold", "silver"} {
			want := map[bool]uint64{true: 1000}[(denom == "gold") == (side == 0)]
			if sum, _ := bank.Supply(c.s.Purses, denom); sum != want {
				t.Fatalf("%s has %d of %s", c.s.Name, sum, denom)
			}
		}
	}
}

// happen lets something happen by chance on a side.
func (v *voyage) happen(t *testing.T, pick func(n int) int) {
	side := pick(2)
	kind := pick(8)
	switch {
	case kind == 0:
		v.give(t, pick, side)
	case kind < 4:
		v.send(t, pick, side)
	case len(v.away[side]) == 0:
	case kind < 6:
		v.receive(t, side, v.away[side][pick(len(v.away[side]))])
	default:
		v.settle(t, side, v.away[side][pick(len(v.away[side]))])
	}
	if pick(4) == 0 {
		tick(t, v.both)
	}
}

// settleAll lets nothing more arrive, and all that is on its way be settled, once it is late.
func (v *voyage) settleAll(t *testing.T) {
	for range 40 {
		tick(t, v.both)
		for side := range 2 {
			for _, p := range slices.Clone(v.away[side]) {
				v.settle(t, side, p)
			}
		}
	}
}

// M3: nothing makes gold, and no voucher stands without it; what is sent arrives, comes home, or comes back.
func TestNothingMakesGold(t *testing.T) {
	var all voyage
	for seed := range 10 {
		r := rand.New(rand.NewSource(int64(seed)))
		v := &voyage{both: linked(t), answers: map[string]string{}}
		for range 300 {
			v.happen(t, r.Intn)
			if v.checkSafes(t); t.Failed() {
				return
			}
		}
		v.settleAll(t)
		v.checkSafes(t)
		if len(v.away[0])+len(v.away[1])+len(v.both[0].s.Sent)+len(v.both[1].s.Sent) > 0 {
			t.Errorf("%+v is still on its way", v.away)
		}
		all.came, all.home, all.back = all.came+v.came, all.home+v.home, all.back+v.back
		for _, c := range v.both {
			for _, ch := range c.s.Chans {
				all.closed += map[int]int{api.ChClosed: 1}[ch.State]
			}
		}
	}
	if min(all.came, all.home, all.back, all.closed) < 5 {
		t.Errorf("%d came, %d came home, %d came back, %d channels closed: too few tell anything", all.came, all.home, all.back, all.closed)
	}
	t.Logf("%d came, %d came home, %d came back, %d channels closed", all.came, all.home, all.back, all.closed)
}
