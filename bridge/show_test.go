package bridge

import (
	"fmt"
	"math"
	"testing"

	"landbridge/api"
	"landbridge/bank"
	"landbridge/proof"
	"landbridge/state"
)

// crooked is the story of two chains whose numbers are unlike: a's connection 3 and b's 1 are one, over a's client 1 and b's 2;
// a's channels 4, not ordered, and 5, ordered, are b's 2 and 1. b's client 1 is as it began, and knows no more than height 1.
func crooked(t testing.TB) *story {
	t.Helper()
	x := newStory()
	x.must(t, api.OK, ends(0))
	x.must(t, api.OK, ends(1))
	for side := range 2 {
		x.pretend(t, side)
	}
	for _, side := range []int{0, 1, 1} {
		x.must(t, api.OK, api.Ev{Kind: api.EvClient, Side: side, Trust: 1000})
	}
	for range 3 {
		x.must(t, api.OK, ask(0, api.Msg{Kind: api.MsgConnInit, Client: 1, Other: 2}))
	}
	x.meet(t)
	x.must(t, api.OK, show(1, api.Msg{Kind: api.MsgConnTry, Client: 2, Other: 1, OtherEnd: 3}))
	x.meet(t)
	x.must(t, api.OK, show(0, api.Msg{Kind: api.MsgConnAck, End: 3, OtherEnd: 1}))
	x.meet(t)
	x.must(t, api.OK, show(1, api.Msg{Kind: api.MsgConnDone, End: 1}))
	x.must(t, api.OK, ask(1, api.Msg{Kind: api.MsgChanInit, End: 1, Ordered: true}))
	for range 4 {
		x.must(t, api.OK, ask(0, api.Msg{Kind: api.MsgChanInit, End: 3}))
	}
	x.meet(t)
	x.must(t, api.OK, show(0, api.Msg{Kind: api.MsgChanTry, End: 3, Ordered: true, OtherEnd: 1}))
	x.must(t, api.OK, show(1, api.Msg{Kind: api.MsgChanTry, End: 1, OtherEnd: 4}))
	x.meet(t)
	x.must(t, api.OK, show(0, api.Msg{Kind: api.MsgChanAck, End: 4, OtherEnd: 2}))
	x.must(t, api.OK, show(1, api.Msg{Kind: api.MsgChanAck, End: 1, OtherEnd: 5}))
	x.meet(t)
	x.must(t, api.OK, show(0, api.Msg{Kind: api.MsgChanDone, End: 5}))
	x.must(t, api.OK, show(1, api.Msg{Kind: api.MsgChanDone, End: 2}))
	return x
}

// pretended is how a chain stands that there is not: its channel 5 answers number 0.
func pretended() api.State {
	out := api.State{Name: "z", Height: 1, Time: 1, Conns: []api.Conn{{State: api.CoTry, Client: 7}}}
	for range 6 {
		out.Chans = append(out.Chans, api.Chan{State: api.ChTry, Ordered: true, Send: 1, Recv: 1, Ack: 1})
	}
	return out
}

// pretend gives a side a client, a connection and a channel, all of number 0, and open: they follow a chain that there is not.
func (x *story) pretend(t testing.TB, side int) {
	t.Helper()
	known := knownOf(headerOf(pretended()))
	x.must(t, api.OK, ask(side, api.Msg{Kind: api.MsgClient, Chain: "z", Trust: 1000, Known: known}))
	x.must(t, api.OK, ask(side, api.Msg{Kind: api.MsgConnInit, Other: 7}))
	x.must(t, api.OK, ask(side, proved(pretended(), "conn/0", api.Msg{Kind: api.MsgConnAck})))
	x.must(t, api.OK, ask(side, api.Msg{Kind: api.MsgChanInit, Ordered: true}))
	x.must(t, api.OK, ask(side, proved(pretended(), "chan/5", api.Msg{Kind: api.MsgChanAck, OtherEnd: 5})))
}

// proved is m with a proof of what stands under key, in a block that ended as s.
func proved(s api.State, key string, m api.Msg) api.Msg {
	pairs, _ := state.Book(s)
	m.Shown.Height = s.Height
	m.Shown.Proof, _ = proof.Show(pairs, []byte(key))
	return m
}

// meet ends a block of each crooked chain, and lets the clients follow that are used.
func (x *story) meet(t testing.TB) {
	t.Helper()
	for _, e := range []api.Ev{ends(0), ends(1), follow(0, 1), follow(1, 2)} {
		x.must(t, api.OK, e)
	}
}

// other is what happens on the other side of it.
func other(e api.Ev) api.Ev {
	e.Side = 1 - e.Side
	return e
}

// N2: what the handshakes must be shown is found by the numbers of either chain.
func TestCrookedHandshakes(t *testing.T) {
	x := crooked(t)
	x.check(t)
	a, b := x.sides[0].now, x.sides[1].now
	if want := (api.Conn{State: api.CoOpen, Client: 1, OtherClient: 2, OtherConn: 1}); a.Conns[3] != want {
		t.Errorf("%+v comes, not %+v", a.Conns[3], want)
	}
	if want := (api.Conn{State: api.CoOpen, Client: 2, OtherClient: 1, OtherConn: 3}); b.Conns[1] != want {
		t.Errorf("%+v comes, not %+v", b.Conns[1], want)
	}
	for _, f := range []struct {
		got  api.Chan
		conn int
		far  int
		in   bool
	}{{a.Chans[4], 3, 2, false}, {a.Chans[5], 3, 1, true}, {b.Chans[2], 1, 4, false}, {b.Chans[1], 1, 5, true}} {
		if want := (api.Chan{State: api.ChOpen, Ordered: f.in, Conn: f.conn, OtherChan: f.far, Send: 1, Recv: 1, Ack: 1}); f.got != want {
			t.Errorf("%+v comes, not %+v", f.got, want)
		}
	}
}

// way is from a channel of a side to one of the other, which has those numbers over these clients.
type way struct {
	side, from, to, near, far int
	ordered                   bool
}

var ways = []way{{0, 4, 2, 1, 2, false}, {0, 5, 1, 1, 2, true}, {1, 2, 4, 2, 1, false}, {1, 1, 5, 2, 1, true}}

// sent is the story of a crooked world where somebody sends over that way, to be received ahead of the given height.
func sent(t testing.TB, w way, timeout int) (*story, api.Packet) {
	t.Helper()
	x := crooked(t)
	give := api.Transfer{Denom: []string{"gold", "silver"}[w.side], Amount: 30, Sender: []string{"ann", "bob"}[w.side], Reader: "eve"}
	p := x.must(t, api.OK, ask(w.side, api.Msg{Kind: api.MsgSend, End: w.from, Transfer: give, Timeout: timeout})).Packet
	want := api.Packet{From: w.from, To: w.to, Seq: 1, Data: bank.Bytes(give), Timeout: timeout}
	if tell(p) != tell(want) {
		t.Fatalf("%+v comes, not %+v", p, want)
	}
	return x, p
}

// N2: a packet is shown to have been sent, once it stands in a block that the client knows; its answer likewise.
func TestThereAndBack(t *testing.T) {
	for _, w := range ways {
		x, p := sent(t, w, 100)
		recv := show(1-w.side, api.Msg{Kind: api.MsgRecv, Packet: p})
		settle := show(w.side, api.Msg{Kind: api.MsgAck, Packet: p, Ack: []byte("1")})
		x.must(t, api.ErrProof, recv)
		x.must(t, api.OK, ends(w.side))
		x.must(t, api.ErrProof, recv) // the block has ended, but the client does not know it
		x.must(t, api.OK, follow(1-w.side, w.far))
		x.must(t, api.OK, ends(w.side))
		x.must(t, api.OK, recv) // a later block, which it does not know, changes nothing
		x.must(t, api.ErrState, recv)
		x.must(t, api.ErrProof, settle)
		x.must(t, api.OK, ends(1-w.side))
		x.must(t, api.ErrProof, settle)
		x.must(t, api.OK, follow(w.side, w.near))
		wrong := settle
		wrong.Msg.Ack = []byte("0")
		x.must(t, api.ErrProof, wrong)
		x.must(t, api.ErrKind, other(api.Ev{Kind: api.EvShow, Side: 3}))
		x.must(t, api.OK, settle)
		x.must(t, api.ErrNone, settle)
		x.check(t)
		own, far := x.sides[w.side].now, x.sides[1-w.side].now
		denom := []string{"gold", "silver"}[w.side]
		if n := bank.Amount(own.Purses, fmt.Sprint("#", w.from), denom); n != 30 || len(own.Sent) != 0 {
			t.Errorf("%+v: %d is kept, and %v is on its way", w, n, own.Sent)
		}
		if n := bank.Amount(far.Purses, "eve", fmt.Sprint(w.to, "/", denom)); n != 30 {
			t.Errorf("%+v: %d has come", w, n)
		}
	}
}

// N2: what was not received in time is shown by what is missing there, or by what is received next.
func TestTooLate(t *testing.T) {
	for _, w := range ways {
		x, p := sent(t, w, 10)
		if h := x.sides[1-w.side].now.Height; h != 8 {
			t.Fatalf("height %d", h)
		}
		late := show(w.side, api.Msg{Kind: api.MsgLate, Packet: p, Next: 77})
		x.must(t, api.ErrTime, late)
		for range 2 {
			x.must(t, api.OK, ends(1-w.side))
			x.must(t, api.OK, follow(w.side, w.near))
			x.must(t, api.ErrTime, late)
		}
		x.must(t, api.OK, ends(1-w.side))
		x.must(t, api.ErrTime, late) // height 10 has ended, but the client does not know it
		x.must(t, api.ErrTime, show(1-w.side, api.Msg{Kind: api.MsgRecv, Packet: p}))
		x.must(t, api.OK, follow(w.side, w.near))
		x.must(t, api.OK, late)
		x.must(t, api.ErrNone, late)
		x.check(t)
		own := x.sides[w.side].now
		if tell(own.Purses) != tell([]api.Purse{{Owner: []string{"ann", "bob"}[w.side], Denom: []string{"gold", "silver"}[w.side], Amount: 1000}}) {
			t.Errorf("%+v: %+v comes", w, own.Purses)
		}
		if closed := own.Chans[w.from].State == api.ChClosed; closed != w.ordered {
			t.Errorf("%+v: %+v comes", w, own.Chans[w.from])
		}
		x.closed(t, w)
	}
}

// N2: out of order one of three is too late: the gap is shown between the two that were received.
func TestOneOfThreeTooLate(t *testing.T) {
	for _, w := range ways {
		x, p := sent(t, w, 9)
		if w.ordered {
			continue
		}
		l := []api.Packet{p}
		again := api.Msg{Kind: api.MsgSend, End: w.from, Timeout: 9}
		again.Transfer, _ = bank.Parse(p.Data)
		for range 2 {
			l = append(l, x.must(t, api.OK, ask(w.side, again)).Packet)
		}
		x.must(t, api.OK, ends(w.side))
		x.must(t, api.OK, follow(1-w.side, w.far))
		for _, i := range []int{2, 0} {
			x.must(t, api.OK, show(1-w.side, api.Msg{Kind: api.MsgRecv, Packet: l[i]}))
		}
		x.must(t, api.OK, ends(1-w.side))
		x.must(t, api.OK, ends(1-w.side))
		x.must(t, api.OK, follow(w.side, w.near))
		for i, want := range []api.Errno{api.ErrProof, api.OK, api.ErrProof} {
			x.must(t, want, show(w.side, api.Msg{Kind: api.MsgLate, Packet: l[i]}))
		}
		for i, want := range []api.Errno{api.OK, api.ErrNone, api.OK} {
			x.must(t, want, show(w.side, api.Msg{Kind: api.MsgAck, Packet: l[i], Ack: []byte("1")}))
		}
		x.check(t)
	}
}

// closed lets the other end of a way be closed, if it is shown that this one is.
func (x *story) closed(t *testing.T, w way) {
	t.Helper()
	e := show(1-w.side, api.Msg{Kind: api.MsgClosed, End: w.to})
	x.must(t, api.ErrProof, e)
	x.must(t, api.OK, ends(w.side))
	x.must(t, api.ErrProof, e)
	x.must(t, api.OK, follow(1-w.side, w.far))
	want := api.OK
	if !w.ordered {
		want = api.ErrProof
	}
	x.must(t, want, e)
	x.check(t)
}

// N2: what was received is not too late, whatever is shown.
func TestReceivedIsNotLate(t *testing.T) {
	for _, w := range ways {
		x, p := sent(t, w, 9)
		x.must(t, api.OK, ends(w.side))
		x.must(t, api.OK, follow(1-w.side, w.far))
		x.must(t, api.OK, show(1-w.side, api.Msg{Kind: api.MsgRecv, Packet: p}))
		for range 3 {
			x.must(t, api.OK, ends(1-w.side))
		}
		x.must(t, api.OK, follow(w.side, w.near))
		late, want := api.Msg{Kind: api.MsgLate, Packet: p, Next: 1}, api.ErrProof
		if w.ordered {
			want = api.ErrState // Next becomes what that state has: 2, which is above the packet's number
		}
		x.must(t, want, show(w.side, late))
		x.must(t, api.OK, show(w.side, api.Msg{Kind: api.MsgAck, Packet: p, Ack: []byte("1")}))
		x.check(t)
	}
}

// N2: in order, what is received next is told as the block had it that the client knows, not as it is.
func TestNextAsTheBlockHadIt(t *testing.T) {
	for _, w := range ways {
		if !w.ordered {
			continue
		}
		x, p := sent(t, w, 100)
		give := ask(w.side, api.Msg{Kind: api.MsgSend, End: w.from, Timeout: 8})
		give.Msg.Transfer, _ = bank.Parse(p.Data)
		q := x.must(t, api.OK, give).Packet
		late := show(w.side, api.Msg{Kind: api.MsgLate, Packet: q, Next: 5})
		x.must(t, api.OK, ends(w.side))
		x.must(t, api.OK, follow(1-w.side, w.far))
		x.must(t, api.OK, ends(1-w.side)) // 8 ends, and nothing was received
		x.must(t, api.OK, follow(w.side, w.near))
		x.must(t, api.OK, show(1-w.side, api.Msg{Kind: api.MsgRecv, Packet: p}))
		x.must(t, api.OK, ends(1-w.side)) // 2 is received next, but nobody knows yet
		y := told(x.l)
		y.must(t, api.OK, late)
		y.check(t)
		x.must(t, api.OK, follow(w.side, w.near))
		x.must(t, api.OK, late)
		x.check(t)
	}
}

// N2: of a channel that there is not no Next is known: it stays as it is told.
func TestNextStaysAsTold(t *testing.T) {
	for next, want := range map[int]api.Errno{1: api.ErrProof, 0: api.ErrState, 2: api.ErrState, 77: api.ErrState, -1: api.ErrState} {
		x := newStory()
		x.pretend(t, 0)
		give := api.Transfer{Denom: "gold", Amount: 1, Sender: "ann", Reader: "eve"}
		p := x.must(t, api.OK, ask(0, api.Msg{Kind: api.MsgSend, Transfer: give, Timeout: 2})).Packet
		later := pretended()
		later.Height, later.Time = 2, 2
		u := api.Update{From: 1, Signed: signed(headerOf(later), seedsOf("z")...)}
		x.must(t, api.OK, ask(0, api.Msg{Kind: api.MsgFollow, Update: u}))
		late := show(0, api.Msg{Kind: api.MsgLate, Packet: p, Next: next})
		x.must(t, api.OK, ends(1))
		x.must(t, api.ErrTime, late) // there is no block of height 2, so none is told
		x.must(t, api.OK, ends(1))
		x.must(t, want, late)
		x.check(t)
		x.must(t, api.OK, ask(0, proved(later, "next/5", api.Msg{Kind: api.MsgLate, Packet: p, Next: 1})))
		x.check(t)
	}
}

// N2: who shows for himself, by EvMsg, shows what he likes; by EvShow that means nothing.
func TestOwnProofs(t *testing.T) {
	w := ways[1]
	x, p := sent(t, w, 8)
	x.must(t, api.OK, ends(1))
	x.must(t, api.OK, follow(0, 1))
	m := proved(x.sides[1].ended[7], "next/1", api.Msg{Kind: api.MsgLate, Packet: p, Next: 1})
	for _, change := range []func(m *api.Msg){
		func(m *api.Msg) { m.Next = 2 },
		func(m *api.Msg) { m.Next = 0 },
		func(m *api.Msg) { m.Shown = api.Shown{} },
		func(m *api.Msg) { m.Shown.Height = 9 },
		func(m *api.Msg) { m.Shown.Height = 7 },
		func(m *api.Msg) { m.Shown.Proof.Index++ },
		func(m *api.Msg) { m.Shown.Proof = api.Proof{} },
	} {
		wrong := m
		change(&wrong)
		y := told(x.l)
		if done := y.happen(ask(0, wrong)); done.Err == api.OK {
			t.Errorf("%+v: it is done", wrong.Shown)
		}
		y.must(t, api.OK, show(0, wrong))
		y.check(t)
	}
	x.must(t, api.OK, ask(0, m))
	x.check(t)
}

// N2: where there is no such end, no such client, or no block of that height, nothing is shown, whatever was told to be.
func TestNothingToShow(t *testing.T) {
	x := crooked(t)
	odd := []int{-1, 3, 4, 5, 99, math.MinInt, math.MaxInt}
	for side := range 2 {
		for kind := range 20 {
			for _, n := range odd {
				shown := api.Shown{Height: 6, Gap: api.Gap{HasLeft: true}}
				y := told(x.l)
				for _, m := range []api.Msg{
					{Kind: kind, Client: n, Shown: shown},
					{Kind: kind, End: n, Shown: shown},
					{Kind: kind, OtherEnd: n, Client: 1, End: 1, Shown: shown},
					{Kind: kind, Packet: api.Packet{From: n, To: 1, Seq: 1, Timeout: 90}, Shown: shown},
					{Kind: kind, Packet: api.Packet{From: 1, To: n, Seq: 1, Timeout: 90}, Shown: shown},
					{Kind: kind, Packet: api.Packet{From: 5, To: n, Seq: 1, Timeout: 90}, Shown: shown},
					{Kind: kind, Packet: api.Packet{From: 4, To: 2, Seq: n, Timeout: 90}, Shown: shown},
				} {
					y.happen(show(side, m))
				}
				y.check(t)
			}
		}
	}
}

// N2: a client that knows a height that no block has yet is shown nothing; once one has it, it is shown what stands there.
func TestHeightsToCome(t *testing.T) {
	x := newStory()
	x.must(t, api.OK, ends(1))
	begun := ask(1, api.Msg{Kind: api.MsgConnInit, Other: 0, Client: 0})
	x.must(t, api.OK, ends(0))
	x.must(t, api.OK, api.Ev{Kind: api.EvClient, Side: 1, Trust: 100})
	x.must(t, api.OK, begun)
	then := x.sides[1].now
	then.Height, then.Time = 3, 3
	x.must(t, api.OK, ask(0, api.Msg{Kind: api.MsgClient, Chain: "b", Trust: 100, Known: knownOf(headerOf(then))}))
	try := show(0, api.Msg{Kind: api.MsgConnTry})
	x.must(t, api.ErrNone, try)
	good := proved(then, "conn/0", try.Msg)
	x.must(t, api.ErrNone, show(0, good)) // not even what would be believed
	told(x.l).must(t, api.OK, ask(0, good))
	x.must(t, api.OK, ends(1))
	x.must(t, api.ErrNone, try)
	x.must(t, api.OK, ends(1))
	x.must(t, api.OK, try)
	x.check(t)
	x.must(t, api.OK, ask(0, api.Msg{Kind: api.MsgClient, Chain: "c", Trust: 100, Known: knownOf(headerOf(x.sides[0].now))}))
	try.Msg.Client = 1
	x.must(t, api.ErrProof, try) // whichever chain it follows, it is the other one's blocks that it is shown
	x.must(t, api.OK, ask(0, api.Msg{Kind: api.MsgClient, Chain: "b", Trust: 100, Known: api.Known{Height: api.MaxNum, Time: 1, Root: make([]byte, 32), Next: make([]byte, 32)}}))
	try.Msg.Client = 2
	x.must(t, api.ErrNone, try)
	x.check(t)
}

// N2: what is shown is of the last height that is known, as its block ended.
func TestAsTheBlockEnded(t *testing.T) {
	x := newStory()
	x.must(t, api.OK, ends(0))
	x.must(t, api.OK, ends(1))
	x.must(t, api.OK, api.Ev{Kind: api.EvClient, Trust: 100})
	x.must(t, api.OK, api.Ev{Kind: api.EvClient, Side: 1, Trust: 100})
	x.must(t, api.OK, ask(1, api.Msg{Kind: api.MsgConnInit}))
	try := show(0, api.Msg{Kind: api.MsgConnTry})
	x.must(t, api.ErrProof, try)
	x.tick(t)
	x.must(t, api.OK, try)
	x.tick(t)
	x.must(t, api.OK, show(1, api.Msg{Kind: api.MsgConnAck}))
	x.must(t, api.OK, try) // the connection is open now, but it was not when that block ended
	x.must(t, api.ErrProof, show(0, api.Msg{Kind: api.MsgConnDone}))
	x.tick(t)
	x.must(t, api.ErrProof, try)
	x.must(t, api.OK, show(0, api.Msg{Kind: api.MsgConnDone}))
	x.check(t)
}

// N2: what is shown is done by Do as all else is, and is refused as all else is.
func TestShownOtherKinds(t *testing.T) {
	x := linked(t, true)
	give := api.Transfer{Denom: "gold", Amount: 30, Sender: "ann", Reader: "eve"}
	for _, m := range []api.Msg{
		{Kind: api.MsgClient, Chain: "z", Trust: 3, Known: knownOf(headerOf(x.sides[1].now))},
		{Kind: api.MsgConnInit, Other: 5},
		{Kind: api.MsgChanInit},
		{Kind: api.MsgSend, Transfer: give, Timeout: 60},
		{Kind: api.MsgGive, Transfer: give},
		{Kind: api.MsgClose},
	} {
		m.Shown = api.Shown{Height: 5}
		plain := told(x.l).happen(ask(0, m))
		if done := x.must(t, api.OK, show(0, m)); tell(done) != tell(plain) {
			t.Errorf("kind %d: %+v comes, not %+v", m.Kind, done, plain)
		}
	}
	for _, kind := range []int{-1, 0, 19} {
		x.must(t, api.ErrKind, show(0, api.Msg{Kind: kind}))
		x.must(t, api.ErrKind, show(1, api.Msg{Kind: kind}))
	}
	x.check(t)
}
