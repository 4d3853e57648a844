package app

import (
	"bytes"
	"fmt"
	"math"
	"slices"
	"strings"
	"testing"

	"landbridge/api"
	"landbridge/bank"
	"landbridge/packet"
)

// fullPurses are MaxPurses of them: those of the sample, and others of lead.
func fullPurses() []api.Purse {
	l := sample().Purses
	for i := len(l); i < api.MaxPurses; i++ {
		l = append(l, api.Purse{Owner: fmt.Sprintf("z%02d", i), Denom: "lead", Amount: 1})
	}
	return l
}

// M3: what is sent leaves its sender's purse, and is kept, or is no more.
func TestSend(t *testing.T) {
	for _, x := range []struct {
		t      api.Transfer
		purses func(l []api.Purse) []api.Purse
	}{
		{usual(), func(l []api.Purse) []api.Purse { return owned(owned(l, "ann", "gold", 7), "#1", "gold", 10) }},
		{api.Transfer{Denom: "gold", Amount: 10, Sender: "ann", Reader: "x"}, func(l []api.Purse) []api.Purse { return owned(owned(l, "ann", "gold", 0), "#1", "gold", 17) }},
		{api.Transfer{Denom: "1/tin", Amount: 2, Sender: "ann", Reader: "x"}, func(l []api.Purse) []api.Purse { return owned(l, "ann", "1/tin", 3) }},
		{api.Transfer{Denom: "6/tin", Amount: 2, Sender: "ann", Reader: "x"}, func(l []api.Purse) []api.Purse { return owned(owned(l, "ann", "6/tin", 6), "#1", "6/tin", 2) }},
		{api.Transfer{Denom: "gold", Amount: 1, Sender: "bob", Reader: "#1"}, func(l []api.Purse) []api.Purse { return owned(owned(l, "bob", "gold", 0), "#1", "gold", 8) }},
	} {
		p := api.Packet{From: 1, To: 6, Seq: 14, Data: bank.Bytes(x.t), Timeout: 7}
		comes(t, carried("Send", func(t *api.Transfer) { *t = x.t }), api.Done{Packet: p}, func(s *api.State) {
			s.Purses = x.purses(s.Purses)
			s.Sent = marked(s.Sent, 1, 14, packet.Digest(p))
			s.Chans[1].Send = 15
		})
	}
	p := api.Packet{From: 2, To: 7, Seq: 27, Data: bank.Bytes(usual()), Timeout: 7}
	comes(t, good("Send*").ready(), api.Done{Packet: p}, func(s *api.State) {
		s.Purses = owned(owned(s.Purses, "ann", "gold", 7), "#2", "gold", 9)
		s.Sent = marked(s.Sent, 2, 27, packet.Digest(p))
		s.Chans[2].Send = 28
	})
}

// badTransfers are such as are none, with what Parse says of their bytes.
func badTransfers() map[string]struct {
	change func(t *api.Transfer)
	want   api.Errno
} {
	long := strings.Repeat("x", 41)
	return map[string]struct {
		change func(t *api.Transfer)
		want   api.Errno
	}{
		"no denom":            {func(t *api.Transfer) { t.Denom = "" }, api.ErrMuch},
		"no sender":           {func(t *api.Transfer) { t.Sender = "" }, api.ErrMuch},
		"no reader":           {func(t *api.Transfer) { t.Reader = "" }, api.ErrMuch},
		"a long denom":        {func(t *api.Transfer) { t.Denom = long }, api.ErrMuch},
		"a long sender":       {func(t *api.Transfer) { t.Sender = long }, api.ErrMuch},
		"a long reader":       {func(t *api.Transfer) { t.Reader = long }, api.ErrMuch},
		"a long safe":         {func(t *api.Transfer) { t.Sender = "#" + long }, api.ErrMuch},
		"nothing":             {func(t *api.Transfer) { t.Amount = 0 }, api.ErrRange},
		"nothing of a safe's": {func(t *api.Transfer) { t.Amount, t.Sender = 0, "#1" }, api.ErrRange},
		"nothing at all":      {func(t *api.Transfer) { *t = api.Transfer{} }, api.ErrMuch},
		"too much to write":   {func(t *api.Transfer) { t.Reader = strings.Repeat("x", api.MaxBytes) }, api.ErrForm},
		"far too much":        {func(t *api.Transfer) { t.Denom, t.Amount = strings.Repeat("x", 1<<22), 0 }, api.ErrForm},
	}
}

// M3: what is no transfer is neither sent nor given, and safes neither send nor take part in what is given.
func TestWhatIsNoTransfer(t *testing.T) {
	for _, name := range []string{"Send", "Send*", "Give"} {
		for note, bad := range badTransfers() {
			check(t, note, carried(name, bad.change), bad.want)
		}
		for _, safe := range []string{"#", "#1", "#2", "#x", "##", "#" + strings.Repeat("x", 39)} {
			check(t, "sender "+safe, carried(name, func(t *api.Transfer) { t.Sender = safe }), api.ErrName)
			want := api.OK
			if name == "Give" {
				want = api.ErrName
			}
			check(t, "reader "+safe, carried(name, func(t *api.Transfer) { t.Reader = safe }), want)
		}
		for _, other := range []string{"x", "1#", " #1", "\x00#", "\"", "$", "1"} {
			check(t, "reader "+other, carried(name, func(t *api.Transfer) { t.Reader = other }), api.OK)
			check(t, "sender "+other, carried(name, func(t *api.Transfer) { t.Sender = other }), api.ErrFit)
		}
	}
}

// M3: a packet of the greatest transfer is not too much.
func TestTheGreatestTransfer(t *testing.T) {
	all := strings.Repeat("x", 40)
	great := api.Transfer{Denom: all, Amount: math.MaxUint64, Sender: all, Reader: all}
	rich := func(x *scene) { x.own.Purses = owned(x.own.Purses, all, all, math.MaxUint64) }
	for _, name := range []string{"Send", "Give"} {
		check(t, "the greatest", altered(name, func(x *scene) {
			rich(x)
			x.carry(func(t *api.Transfer) { *t = great })
		}), api.OK)
	}
	if size := len(bank.Bytes(great)); size > api.MaxData {
		t.Errorf("%d bytes", size)
	}
}

// fault makes a message come to nothing.
type fault struct {
	note   string
	change func(x *scene)
	want   api.Errno
}

// faultsOf are those of transfers, in the order in which the chapters name them.
func faultsOf(name string) []fault {
	end := map[bool]int{false: 1, true: 2}[ordered(name)]
	transfer := func(change func(t *api.Transfer)) func(x *scene) {
		return func(x *scene) {
			t := x.m.Transfer
			change(&t)
			x.m.Transfer = t
		}
	}
	noTransfer := fault{"no amount", transfer(func(t *api.Transfer) { t.Amount = 0 }), api.ErrRange}
	safe := fault{"a safe sends", transfer(func(t *api.Transfer) { t.Sender = "#1" }), api.ErrName}
	poor := fault{"not enough", func(x *scene) { x.own.Purses = []api.Purse{{Owner: "#1", Denom: "tin", Amount: 1}} }, api.ErrFit}
	noChan := fault{"no such state", func(x *scene) { x.own.Chans[end].State = api.ChInit }, api.ErrState}
	inactive := fault{"no active client", func(x *scene) { x.own.Clients[1].Frozen = true }, api.ErrState}
	notShown := fault{"not shown", func(x *scene) { x.theirs = map[string]string{"conn/0": "c"}; x.key = "conn/0" }, api.ErrProof}
	switch face(name) {
	case "Send":
		return []fault{noTransfer, safe, noChan, inactive,
			{"too late", func(x *scene) { x.m.Timeout = 6 }, api.ErrTime},
			{"too many", func(x *scene) { x.own.Chans[end].Send = api.MaxNum }, api.ErrMany},
			poor}
	case "Give":
		return []fault{noTransfer, safe, {"a safe reads", transfer(func(t *api.Transfer) { t.Reader = "#1" }), api.ErrName}, poor}
	case "Recv":
		return []fault{{"no packet", func(x *scene) { x.m.Packet.Seq = 0 }, api.ErrRange}, noChan, inactive,
			{"too late", func(x *scene) { x.own.Height = 5 }, api.ErrTime}, notShown}
	case "Ack", "Late":
		return []fault{{"no packet", func(x *scene) { x.m.Packet.Seq = 0 }, api.ErrRange}, noChan, inactive,
			{"not sent", func(x *scene) { x.own.Sent = nil }, api.ErrNone}, notShown, poor}
	}
	return nil
}

// skipped answers whether the fault is none for that message: what is not refused does not come back.
func (f fault) skipped(name string) bool {
	return f.note == "not enough" && face(name) == "Ack" && !strings.Contains(name, "0") || f.note == "not shown" && name == "Late"
}

// M3: the first error is told.
func TestFirstErrors(t *testing.T) {
	for _, name := range names {
		for i, f := range faultsOf(name) {
			if f.skipped(name) {
				continue
			}
			check(t, f.note, altered(name, f.change), f.want)
			for _, g := range faultsOf(name)[i+1:] {
				x := altered(name, func(x *scene) {
					g.change(x)
					f.change(x)
				})
				check(t, f.note+" and "+g.note, x, f.want)
			}
		}
	}
}

// answer is the mark of a packet's answer in what comes.
func answer(s api.State, ch, seq int) []byte {
	at := slices.IndexFunc(s.Acks, func(m api.Mark) bool { return m.Chan == ch && m.Seq == seq })
	if at < 0 {
		return nil
	}
	return s.Acks[at].Digest
}

// M3: what arrives stands for what is kept there, or comes home out of the safe.
func TestReceived(t *testing.T) {
	for _, x := range []struct {
		name   string
		t      api.Transfer
		purses func(l []api.Purse) []api.Purse
	}{
		{"Recv", usual(), func(l []api.Purse) []api.Purse { return owned(l, "bob", "1/gold", 3) }},
		{"Recv*", usual(), func(l []api.Purse) []api.Purse { return owned(l, "bob", "2/gold", 3) }},
		{"Recv", api.Transfer{Denom: "tin", Amount: 9, Sender: "x", Reader: "ann"}, func(l []api.Purse) []api.Purse { return owned(l, "ann", "1/tin", 14) }},
		{"Recv", api.Transfer{Denom: "6/gold", Amount: 4, Sender: "x", Reader: "bob"}, func(l []api.Purse) []api.Purse { return owned(owned(l, "#1", "gold", 3), "bob", "gold", 5) }},
		{"Recv*", api.Transfer{Denom: "7/gold", Amount: 6, Sender: "x", Reader: "eve"}, func(l []api.Purse) []api.Purse { return owned(owned(l, "#2", "gold", 0), "eve", "gold", 6) }},
		{"Recv", api.Transfer{Denom: "1/gold", Amount: 4, Sender: "x", Reader: "bob"}, func(l []api.Purse) []api.Purse { return owned(l, "bob", "1/1/gold", 4) }},
		// Of the sender nothing is asked here: the other chain has.
		{"Recv", api.Transfer{Denom: "gold", Amount: 1, Sender: "#1", Reader: "bob"}, func(l []api.Purse) []api.Purse { return owned(l, "bob", "1/gold", 1) }},
	} {
		y := carried(x.name, func(t *api.Transfer) { *t = x.t })
		comes(t, y, api.Done{}, func(s *api.State) {
			s.Purses = x.purses(s.Purses)
			received(s, y.m.Packet, "1")
		})
	}
}

// received is what packets leave behind, whatever they carry.
func received(s *api.State, p api.Packet, ack string) {
	if s.Chans[p.To].Ordered {
		s.Chans[p.To].Recv++
	} else {
		s.Got = marked(s.Got, p.To, p.Seq, packet.Digest(p))
	}
	s.Acks = marked(s.Acks, p.To, p.Seq, sumOf([]byte(ack)))
}

// M3: what can't come is received, and refused: purses stay as they were.
func TestRefused(t *testing.T) {
	data := map[string][]byte{
		"no bytes":    nil,
		"some bytes":  []byte("hello"),
		"most bytes":  make([]byte, api.MaxData),
		"one more":    append(bank.Bytes(usual()), 0),
		"a byte less": bank.Bytes(usual())[:len(bank.Bytes(usual()))-1],
		"no amount":   bank.Bytes(api.Transfer{Denom: "gold", Sender: "ann", Reader: "bob"}),
		"no reader":   bank.Bytes(api.Transfer{Denom: "gold", Amount: 1, Sender: "ann"}),
		"long reader": bank.Bytes(api.Transfer{Denom: "gold", Amount: 1, Sender: "ann", Reader: strings.Repeat("x", 41)}),
	}
	for note, x := range map[string]api.Transfer{
		"a safe reads":           {Denom: "gold", Amount: 3, Sender: "ann", Reader: "#1"},
		"another safe reads":     {Denom: "6/gold", Amount: 3, Sender: "ann", Reader: "#7"},
		"something like a safe":  {Denom: "gold", Amount: 3, Sender: "ann", Reader: "#"},
		"more than there is":     {Denom: "6/gold", Amount: 8, Sender: "ann", Reader: "bob"},
		"none of it in the safe": {Denom: "6/lead", Amount: 1, Sender: "ann", Reader: "bob"},
		"an empty name":          {Denom: "6/", Amount: 1, Sender: "ann", Reader: "bob"},
		"a long name":            {Denom: strings.Repeat("x", 39), Amount: 1, Sender: "ann", Reader: "bob"},
		"too much of it":         {Denom: "tin", Amount: math.MaxUint64 - 4, Sender: "ann", Reader: "bob"},
	} {
		data[note] = bank.Bytes(x)
	}
	for _, name := range []string{"Recv", "Recv*"} {
		for note, b := range data {
			if ordered(name) {
				b = bytes.ReplaceAll(b, []byte("6/"), []byte("7/"))
			}
			if ordered(name) && note == "too much of it" {
				continue
			}
			y := altered(name, func(x *scene) { x.repack(func(m *api.Msg) { m.Packet.Data = b }) })
			s, _ := check(t, note, y, api.OK)
			if want := sumOf([]byte("0")); !bytes.Equal(answer(s, y.m.Packet.To, y.m.Packet.Seq), want) {
				t.Errorf("%s: it is not refused", note)
			}
			comes(t, y, api.Done{}, func(s *api.State) { received(s, y.m.Packet, "0") })
		}
		full := altered(name, func(x *scene) { x.own.Purses = fullPurses() })
		comes(t, full, api.Done{}, func(s *api.State) { received(s, full.m.Packet, "0") })
		much := altered(name, func(x *scene) { x.repack(func(m *api.Msg) { m.Packet.Data = make([]byte, api.MaxData+1) }) })
		check(t, "too many bytes", much, api.ErrMuch)
	}
}

// settledOf is what a packet that is settled leaves behind.
func settledOf(s *api.State, p api.Packet) { s.Sent = unmarked(s.Sent, p.From, p.Seq) }

// M3: what was done is settled; what was refused, alone, comes back.
func TestAcknowledged(t *testing.T) {
	for _, star := range []string{"", "*"} {
		for ack, back := range map[string]bool{"1": false, "0": true, "": false, "x": false, "00": false, "0 ": false, "10": false, "01": false, "\x00": false} {
			x := altered("Ack"+star, func(x *scene) { x.repack(func(m *api.Msg) { m.Ack = []byte(ack) }) })
			comes(t, x, api.Done{}, func(s *api.State) {
				settledOf(s, x.m.Packet)
				if star != "" {
					s.Chans[2].Ack++
				}
				if back && star == "" {
					s.Purses = owned(owned(s.Purses, "#1", "gold", 4), "ann", "gold", 13)
				}
				if back && star != "" {
					s.Purses = owned(owned(s.Purses, "#2", "gold", 3), "ann", "gold", 13)
				}
			})
		}
	}
}

// M3: what came over the channel is made again, all else comes out of its safe; what can't come back is not settled.
func TestComingBack(t *testing.T) {
	for _, name := range []string{"Ack0", "Late"} {
		for _, x := range []struct {
			note   string
			t      api.Transfer
			purses func(l []api.Purse) []api.Purse
			want   api.Errno
		}{
			{"gold", usual(), func(l []api.Purse) []api.Purse { return owned(owned(l, "#1", "gold", 4), "ann", "gold", 13) }, api.OK},
			{"all of it", api.Transfer{Denom: "gold", Amount: 7, Sender: "eve", Reader: "bob"}, func(l []api.Purse) []api.Purse { return owned(owned(l, "#1", "gold", 0), "eve", "gold", 7) }, api.OK},
			{"more than is kept", api.Transfer{Denom: "gold", Amount: 8, Sender: "ann", Reader: "bob"}, nil, api.ErrFit},
			{"what came", api.Transfer{Denom: "1/tin", Amount: 8, Sender: "ann", Reader: "bob"}, func(l []api.Purse) []api.Purse { return owned(l, "ann", "1/tin", 13) }, api.OK},
			{"what came there", api.Transfer{Denom: "6/gold", Amount: 8, Sender: "ann", Reader: "bob"}, nil, api.ErrFit},
			{"too much", api.Transfer{Denom: "1/tin", Amount: math.MaxUint64 - 4, Sender: "ann", Reader: "bob"}, nil, api.ErrRange},
			// Who has sent it was asked when it was sent.
			{"a safe's", api.Transfer{Denom: "1/tin", Amount: 8, Sender: "#2", Reader: "#3"}, func(l []api.Purse) []api.Purse { return owned(l, "#2", "1/tin", 8) }, api.OK},
		} {
			y := carried(name, func(t *api.Transfer) { *t = x.t })
			check(t, x.note, y, x.want)
			if x.want == api.OK {
				comes(t, y, api.Done{}, func(s *api.State) {
					settledOf(s, y.m.Packet)
					s.Purses = x.purses(s.Purses)
				})
			}
		}
		check(t, "too many purses", altered(name, func(x *scene) {
			x.own.Purses = fullPurses()
			x.carry(func(t *api.Transfer) { t.Denom, t.Sender = "1/tin", "eve" })
		}), api.ErrMany)
		for note, b := range map[string][]byte{"no bytes": nil, "some bytes": []byte("hello"), "no amount": bank.Bytes(api.Transfer{Denom: "gold", Sender: "ann", Reader: "bob"})} {
			y := altered(name, func(x *scene) { x.repack(func(m *api.Msg) { m.Packet.Data = b }) })
			check(t, note, y, api.OK)
			comes(t, y, api.Done{}, func(s *api.State) { settledOf(s, y.m.Packet) })
		}
	}
}

// M3: what is too late comes back, and closes the channel, if it is ordered.
func TestLate(t *testing.T) {
	x := good("Late*").ready()
	comes(t, x, api.Done{}, func(s *api.State) {
		settledOf(s, x.m.Packet)
		s.Chans[2].State = api.ChClosed
		s.Purses = owned(owned(s.Purses, "#2", "gold", 3), "ann", "gold", 13)
	})
	for next, want := range map[int]api.Errno{0: api.ErrState, 17: api.ErrProof, 18: api.OK, 20: api.ErrState, -1: api.ErrState} {
		check(t, fmt.Sprintf("next %d", next), altered("Late*", func(x *scene) { x.m.Next = next }), want)
	}
	check(t, "it was received", altered("Late", func(x *scene) { x.theirs[x.key] = "received" }), api.ErrProof)
	check(t, "not yet late", altered("Late", func(x *scene) { x.repack(func(m *api.Msg) { m.Packet.Timeout = 7 }) }), api.ErrTime)
}

// M3: within the chain.
func TestGive(t *testing.T) {
	for _, x := range []struct {
		note   string
		t      api.Transfer
		purses func(l []api.Purse) []api.Purse
		want   api.Errno
	}{
		{"some", usual(), func(l []api.Purse) []api.Purse { return owned(owned(l, "ann", "gold", 7), "bob", "gold", 4) }, api.OK},
		{"all", api.Transfer{Denom: "gold", Amount: 10, Sender: "ann", Reader: "eve"}, func(l []api.Purse) []api.Purse { return owned(owned(l, "ann", "gold", 0), "eve", "gold", 10) }, api.OK},
		{"what came", api.Transfer{Denom: "1/tin", Amount: 5, Sender: "ann", Reader: "bob"}, func(l []api.Purse) []api.Purse { return owned(owned(l, "ann", "1/tin", 0), "bob", "1/tin", 5) }, api.OK},
		{"to oneself", api.Transfer{Denom: "gold", Amount: 10, Sender: "ann", Reader: "ann"}, func(l []api.Purse) []api.Purse { return l }, api.OK},
		{"more than there is", api.Transfer{Denom: "gold", Amount: 11, Sender: "ann", Reader: "bob"}, nil, api.ErrFit},
		{"what nobody has", api.Transfer{Denom: "lead", Amount: 1, Sender: "ann", Reader: "bob"}, nil, api.ErrFit},
	} {
		y := carried("Give", func(t *api.Transfer) { *t = x.t })
		check(t, x.note, y, x.want)
		if x.want == api.OK {
			comes(t, y, api.Done{}, func(s *api.State) { s.Purses = x.purses(s.Purses) })
		}
	}
	full := func(amount uint64) call {
		return altered("Give", func(x *scene) {
			x.own.Purses = fullPurses()
			x.m.Transfer.Reader, x.m.Transfer.Amount = "eve", amount
		})
	}
	check(t, "a purse too many", full(3), api.ErrMany)
	check(t, "one for another", full(10), api.OK)
	// Nothing else of the state is asked.
	check(t, "a chain alone", call{"Give", api.State{Name: "a", Purses: sample().Purses}, api.Msg{Kind: api.MsgGive, Transfer: usual()}}, api.OK)
}
