package bridge

import (
	"fmt"
	"math/rand"
	"slices"
	"strings"
	"testing"

	"landbridge/api"
	"landbridge/bank"
)

// onItsWay is a packet, and the side that it left.
type onItsWay struct {
	side int
	p    api.Packet
}

// voyage is a story of linked chains, and what is on its way in it.
type voyage struct {
	*story
	away                     []onItsWay
	came, home, back, closed int
}

// add adds something, and learns what is on its way then, and what is not any more.
func (v *voyage) add(e api.Ev) {
	done := v.happen(e)
	if done.Packet.Seq > 0 {
		v.away = append(v.away, onItsWay{e.Side, done.Packet})
	}
	if done.Err != api.OK {
		return
	}
	t, _ := bank.Parse(e.Msg.Packet.Data)
	switch e.Msg.Kind {
	case api.MsgAck, api.MsgLate:
		v.away = slices.DeleteFunc(v.away, func(x onItsWay) bool { return x.side == e.Side && tell(x.p) == tell(e.Msg.Packet) })
		if e.Msg.Kind == api.MsgLate || string(e.Msg.Ack) == "0" {
			v.back++
		}
	case api.MsgClosed:
		v.closed++
	case api.MsgRecv:
		if strings.HasPrefix(t.Denom, "0/") {
			v.home++
		} else {
			v.came++
		}
	}
}

// tight is a story of linked chains, with no more blocks than it takes.
func tight(t testing.TB, ordered bool) *story {
	t.Helper()
	x := newStory()
	for _, e := range []api.Ev{ends(0), ends(1), {Kind: api.EvClient, Trust: 1000}, {Kind: api.EvClient, Side: 1, Trust: 1000}} {
		x.must(t, api.OK, e)
	}
	for kind := api.MsgConnInit; kind <= api.MsgChanDone; kind++ {
		side := kind % 2
		for _, e := range []api.Ev{show(side, api.Msg{Kind: kind, Ordered: ordered}), ends(side), follow(1-side, 0)} {
			x.must(t, api.OK, e)
		}
	}
	return x
}

// invented is what happens by chance: mostly such as comes to something.
func (v *voyage) invented(pick func(n int) int) []api.Ev {
	side := pick(2)
	kind := pick(16)
	switch {
	case kind < 5:
		return []api.Ev{ends(side), follow(1-side, 0)}
	case kind < 8 && len(v.away) < 3:
		return []api.Ev{v.sending(pick, side)}
	case kind < 15 && len(v.away) > 0:
		x := v.away[pick(len(v.away))]
		if kind < 11 {
			return []api.Ev{show(1-x.side, api.Msg{Kind: api.MsgRecv, Packet: x.p})}
		}
		if kind < 14 {
			return []api.Ev{show(x.side, api.Msg{Kind: api.MsgAck, Packet: x.p, Ack: [][]byte{[]byte("1"), []byte("1"), []byte("0")}[pick(3)]})}
		}
		return []api.Ev{show(x.side, api.Msg{Kind: api.MsgLate, Packet: x.p, Next: pick(4)})}
	case kind == 15 && pick(3) == 0:
		return []api.Ev{show(side, api.Msg{Kind: []int{api.MsgClose, api.MsgClosed, api.MsgClosed, api.MsgChanDone}[pick(4)]})}
	case kind == 15 && pick(3) == 0:
		return []api.Ev{ends(side), ends(side), follow(1-side, 0)}
	}
	return []api.Ev{show(side, api.Msg{Kind: pick(20), Client: pick(2), End: pick(2), OtherEnd: pick(2)})}
}

// sending is by chance, of what somebody has.
func (v *voyage) sending(pick func(n int) int, side int) api.Ev {
	l := v.sides[side].now.Purses
	p := l[pick(len(l))]
	x := api.Transfer{Denom: p.Denom, Amount: 1 + uint64(pick(int(p.Amount))), Sender: p.Owner, Reader: []string{"ann", "bob", "eve", "#0"}[pick(4)]}
	return ask(side, api.Msg{Kind: api.MsgSend, Transfer: x, Timeout: v.sides[1-side].now.Height + 1 + pick(5)})
}

// settle lets both chains go on and follow until all is too late, and settles all that is on its way.
func (v *voyage) settle() {
	for range 6 {
		for _, e := range []api.Ev{ends(0), ends(1)} {
			v.add(e)
		}
	}
	v.add(follow(0, 0))
	v.add(follow(1, 0))
	for range 2 { // in order what comes later may be settled first
		for _, x := range slices.Clone(v.away) {
			for _, m := range []api.Msg{{Kind: api.MsgAck, Packet: x.p, Ack: []byte("1")}, {Kind: api.MsgAck, Packet: x.p, Ack: []byte("0")}, {Kind: api.MsgLate, Packet: x.p}} {
				if slices.ContainsFunc(v.away, func(y onItsWay) bool { return y.side == x.side && tell(x.p) == tell(y.p) }) {
					v.add(show(x.side, m))
				}
			}
		}
	}
}

// checkSafes: once nothing is on its way, a safe keeps just what stands for it on the other chain; and there is as much as ever.
func (v *voyage) checkSafes(t *testing.T) {
	t.Helper()
	for side, own := range v.sides {
		native := []string{"gold", "silver"}[side]
		kept := bank.Amount(own.now.Purses, "#0", native)
		away, _ := bank.Supply(v.sides[1-side].now.Purses, "0/"+native)
		if kept != away {
			t.Errorf("%s keeps %d of %s, and %d stand for it", own.now.Name, kept, native, away)
		}
		if sum, _ := bank.Supply(own.now.Purses, native); sum != 1000 {
			t.Errorf("%s has %d of %s", own.now.Name, sum, native)
		}
		if len(own.now.Sent) > 0 {
			t.Errorf("%s: %+v is on its way", own.now.Name, own.now.Sent)
		}
	}
}

// N1 and N2: what happens by chance; nothing makes gold, no voucher stands without it, and all arrives, comes home, or comes back.
func TestByChance(t *testing.T) {
	var all voyage
	for seed := range 300 {
		r := rand.New(rand.NewSource(int64(seed)))
		v := &voyage{story: tight(t, seed%2 == 1)}
		for len(v.l)+14+6*len(v.away) < api.MaxEvents-9 { // what settling takes is kept free
			for _, e := range v.invented(r.Intn) {
				v.add(e)
			}
		}
		v.settle()
		if len(v.l) > api.MaxEvents {
			t.Fatalf("%d events", len(v.l))
		}
		v.check(t)
		if v.checkSafes(t); t.Failed() {
			t.Fatalf("seed %d", seed)
		}
		all.came, all.home, all.back, all.closed = all.came+v.came, all.home+v.home, all.back+v.back, all.closed+v.closed
	}
	if min(all.came, all.home, all.back, all.closed) < 5 {
		t.Errorf("%d came, %d came home, %d came back, %d channels closed: too few tell anything", all.came, all.home, all.back, all.closed)
	}
	t.Logf("%d came, %d came home, %d came back, %d channels closed", all.came, all.home, all.back, all.closed)
}

// N2: there, given on, and home.
func TestThereAndHome(t *testing.T) {
	for _, ordered := range []bool{false, true} {
		x := linked(t, ordered)
		carry := func(side int, give api.Transfer, ack string) {
			t.Helper()
			p := x.must(t, api.OK, ask(side, api.Msg{Kind: api.MsgSend, Transfer: give, Timeout: 100})).Packet
			x.tick(t)
			x.must(t, api.OK, show(1-side, api.Msg{Kind: api.MsgRecv, Packet: p}))
			x.tick(t)
			x.must(t, api.OK, show(side, api.Msg{Kind: api.MsgAck, Packet: p, Ack: []byte(ack)}))
		}
		purses := func(side int, want string) {
			t.Helper()
			var out []string
			for _, p := range x.sides[side].now.Purses {
				out = append(out, fmt.Sprintf("%s %d %s", p.Owner, p.Amount, p.Denom))
			}
			if got := strings.Join(out, ", "); got != want {
				t.Errorf("%s comes, not %s", got, want)
			}
		}
		carry(0, api.Transfer{Denom: "gold", Amount: 300, Sender: "ann", Reader: "bob"}, "1")
		x.must(t, api.OK, ask(1, api.Msg{Kind: api.MsgGive, Transfer: api.Transfer{Denom: "0/gold", Amount: 200, Sender: "bob", Reader: "eve"}}))
		carry(1, api.Transfer{Denom: "0/gold", Amount: 150, Sender: "eve", Reader: "zed"}, "1")
		carry(1, api.Transfer{Denom: "silver", Amount: 10, Sender: "bob", Reader: "#1"}, "0") // no safe may be given anything: it comes back
		carry(1, api.Transfer{Denom: "silver", Amount: 20, Sender: "bob", Reader: "ann"}, "1")
		purses(0, "#0 150 gold, ann 20 0/silver, ann 700 gold, zed 150 gold")
		purses(1, "#0 20 silver, bob 100 0/gold, bob 980 silver, eve 50 0/gold")
		x.check(t)
	}
}

// FuzzPlay holds what bytes tell of against the story of it.
func FuzzPlay(f *testing.F) {
	f.Add([]byte{})
	f.Add([]byte("much of gold, and some of silver, goes here and there"))
	for i := range 16 {
		f.Add([]byte{1, 0, byte(i), 1, byte(i), 0, 2, 1, 1, byte(i), 0, 0, 0, 3, 1, 3, 0, 8, 0, 0, 11, 0})
	}
	f.Fuzz(func(t *testing.T, b []byte) {
		pick := func(n int) int {
			if len(b) == 0 {
				return 0
			}
			out := int(b[0]) % n
			b = b[1:]
			return out
		}
		v := &voyage{story: newStory()}
		if pick(4) > 0 {
			v.story = tight(t, pick(2) == 1)
		}
		for len(v.l) < api.MaxEvents-2 && len(b) > 0 {
			for _, e := range v.invented(pick) {
				v.add(e)
			}
		}
		v.check(t)
	})
}
