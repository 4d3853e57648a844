package packet

import (
	"bytes"
	"encoding/hex"
	"fmt"
	"math"
	"slices"
	"testing"

	"landbridge/api"
)

// edges are numbers at which something may end, and great ones.
var edges = []int{math.MinInt, math.MinInt + 1, -api.MaxNum, -2, -1, 0, 1, 2, 3, 4, 5, 6, 7, 127, 128, 1 << 32, api.MaxNum - 1, api.MaxNum, api.MaxNum + 1, math.MaxInt - 1, math.MaxInt}

// numbersOfPackets are the fields that are numbers, with the least that each may be.
var numbersOfPackets = []struct {
	name string
	low  int
	of   func(p *api.Packet) *int
}{
	{"From", 0, func(p *api.Packet) *int { return &p.From }},
	{"To", 0, func(p *api.Packet) *int { return &p.To }},
	{"Seq", 1, func(p *api.Packet) *int { return &p.Seq }},
	{"Timeout", 1, func(p *api.Packet) *int { return &p.Timeout }},
}

// K1
func TestWrong(t *testing.T) {
	for _, field := range numbersOfPackets {
		for _, n := range edges {
			for size, wantSize := range map[int]api.Errno{0: api.OK, 1: api.OK, 149: api.OK, 150: api.OK, 151: api.ErrMuch, 1 << 20: api.ErrMuch} {
				p := api.Packet{From: 3, To: 4, Seq: 5, Data: make([]byte, size), Timeout: 6}
				*field.of(&p) = n
				want := wantSize
				if n < field.low || n > 1000000000000 {
					want = api.ErrRange
				}
				if got := Wrong(p); got != want {
					t.Errorf("%s %d, %d bytes: %d comes, not %d", field.name, n, size, got, want)
				}
			}
		}
	}
	for _, data := range [][]byte{nil, {}} {
		if got := Wrong(api.Packet{Seq: 1, Data: data, Timeout: 1}); got != api.OK {
			t.Errorf("the least packet: %d comes", got)
		}
	}
	if got := Wrong(api.Packet{}); got != api.ErrRange {
		t.Errorf("no packet: %d comes", got)
	}
}

// K1
func TestDigest(t *testing.T) {
	p := api.Packet{Seq: 1, Data: []byte("hello"), Timeout: 6}
	if got := hex.EncodeToString(Digest(p)); got != "300a00392b461e1233056d4566b2de9d39777d49ea26316f361d1f4ca88a58e0" {
		t.Errorf("%s comes", got)
	}
	seen := map[string]api.Packet{}
	checkDigest := func(p api.Packet) {
		t.Helper()
		got := string(Digest(p))
		if got != string(digestOf(p)) {
			t.Errorf("%v: %x comes", p, got)
		}
		if before, there := seen[got]; there && tell(before) != tell(p) {
			t.Errorf("%v and %v have one digest", before, p)
		}
		seen[got] = p
	}
	for _, field := range numbersOfPackets {
		for _, n := range edges {
			if n >= field.low && n <= api.MaxNum {
				p := api.Packet{From: 30, To: 31, Seq: 32, Data: []byte("x"), Timeout: 33}
				*field.of(&p) = n
				checkDigest(p)
			}
		}
	}
	for size := range 151 {
		checkDigest(api.Packet{From: 1, To: 2, Seq: 3, Data: bytes.Repeat([]byte{7}, size), Timeout: 4})
	}
	checkDigest(api.Packet{Seq: 1, Data: []byte{}, Timeout: 1})
	checkDigest(api.Packet{Seq: 1, Timeout: 1})
}

// Z1: of what is no packet nothing is promised, but that nothing panics.
func TestDigestOfNoPacket(t *testing.T) {
	for _, n := range edges {
		for _, size := range []int{0, 151, api.MaxBytes, api.MaxBytes + 1, 1 << 20} {
			Digest(api.Packet{From: n, To: n, Seq: n, Data: make([]byte, size), Timeout: n})
		}
	}
}

// checkState is for calls that must make no error: what of s is then as change says, all else being as it was.
func checkState(t *testing.T, note string, x call, change func(s *api.State)) api.Packet {
	t.Helper()
	want := x.s
	want.Chans = slices.Clone(want.Chans)
	change(&want)
	s, p, err := checkCall(t, note, x)
	if err != api.OK || tell(s) != tell(want) {
		t.Errorf("%s, %s: %v and %d come, not %v", x.name, note, s, err, want)
	}
	return p
}

func mark(ch, seq int, digest []byte) api.Mark { return api.Mark{Chan: ch, Seq: seq, Digest: digest} }

// K2: the document's example: the first packet has the number 1.
func TestTheFirstPacket(t *testing.T) {
	s := api.State{Name: "a", Clients: []api.Client{following("b")}, Conns: []api.Conn{{State: api.CoOpen}}}
	for _, ordered := range []bool{false, true} {
		s.Chans = []api.Chan{{State: api.ChOpen, Ordered: ordered, OtherChan: 3, Send: 1, Recv: 1, Ack: 1}}
		want := api.Packet{From: 0, To: 3, Seq: 1, Data: []byte("first"), Timeout: 7}
		p := checkState(t, "the first one", call{name: "Send", s: s, data: want.Data, timeout: 7}, func(s *api.State) {
			s.Chans[0].Send = 2
			s.Sent = []api.Mark{mark(0, 1, digestOf(want))}
		})
		if tell(p) != tell(want) {
			t.Errorf("%v comes", p)
		}
	}
}

// K2
func TestWhatComesOfSend(t *testing.T) {
	was := sample().Sent
	want := api.Packet{From: 1, To: 6, Seq: 14, Data: []byte("data"), Timeout: 7}
	p := checkState(t, "ordinary", good("Send").ready(), func(s *api.State) {
		s.Chans[1].Send = 15
		s.Sent = []api.Mark{was[0], was[1], was[2], mark(1, 14, digestOf(want)), was[3]}
	})
	if tell(p) != tell(want) {
		t.Errorf("%v comes", p)
	}
	want = api.Packet{From: 2, To: 7, Seq: 27, Data: []byte("data"), Timeout: 7}
	p = checkState(t, "ordinary", good("Send*").ready(), func(s *api.State) {
		s.Chans[2].Send = 28
		s.Sent = append(slices.Clone(was), mark(2, 27, digestOf(want)))
	})
	if tell(p) != tell(want) {
		t.Errorf("%v comes", p)
	}
}

// K3
func TestWhatComesOfRecv(t *testing.T) {
	was := sample()
	p := api.Packet{From: 6, To: 1, Seq: 12, Data: []byte("hello"), Timeout: 5}
	checkState(t, "ordinary", good("Recv").ready(), func(s *api.State) {
		s.Got = []api.Mark{was.Got[0], was.Got[1], mark(1, 12, digestOf(p)), was.Got[2], was.Got[3]}
		s.Acks = []api.Mark{was.Acks[0], mark(1, 12, sumOf([]byte("done"))), was.Acks[1], was.Acks[2]}
	})
	checkState(t, "ordinary", good("Recv*").ready(), func(s *api.State) {
		s.Chans[2].Recv = 29
		s.Acks = append(slices.Clone(was.Acks), mark(2, 28, sumOf([]byte("done"))))
	})
}

// K3: an answer stands in the place of one that there is.
func TestAnsweredInItsPlace(t *testing.T) {
	for _, name := range []string{"Recv", "Recv*"} {
		x := good(name)
		x.own.Acks = put(x.own.Acks, x.p.To, x.p.Seq, filled(77))
		if name == "Recv*" {
			x.own.Acks = put(x.own.Acks, x.p.To, x.p.Seq+1, filled(78))
		}
		place := slices.IndexFunc(x.own.Acks, func(m api.Mark) bool { return m.Digest[0] == 77 })
		checkState(t, "in the place of one", x.ready(), func(s *api.State) {
			s.Acks = slices.Clone(s.Acks)
			s.Acks[place].Digest = sumOf(x.ack)
			if name == "Recv*" {
				s.Chans[2].Recv = 29
			} else {
				s.Got = put(s.Got, 1, 12, digestOf(x.p))
			}
		})
	}
}

// K4
func TestWhatComesOfSettling(t *testing.T) {
	for _, name := range []string{"Ack", "Ack*", "Timeout", "Timeout*"} {
		for _, stands := range []int{api.ChOpen, api.ChClosed} {
			x := good(name)
			x.end().State = stands
			checkState(t, "ordinary", x.ready(), func(s *api.State) {
				s.Sent = sample().Sent
				switch name {
				case "Ack*":
					s.Chans[2].Ack = 20
				case "Timeout*":
					s.Chans[2].State = api.ChClosed
				}
			})
		}
	}
}

// K2 and K3: marks stand in the order of their channels, then numbers, wherever they come.
func TestPlacesOfMarks(t *testing.T) {
	digest := filled(50)
	lists := [][]api.Mark{
		nil,
		{mark(0, 900, digest)},
		{mark(1, 1, digest)},
		{mark(1, 900, digest)},
		{mark(2, 1, digest)},
		{mark(2, 900, digest)},
		{mark(3, 1, digest)},
		{mark(0, 900, digest), mark(1, 1, digest), mark(1, 900, digest), mark(2, 1, digest), mark(2, 900, digest), mark(10, 1, digest)},
	}
	for _, l := range lists {
		for _, name := range faces {
			check(t, fmt.Sprintf("marks %v", l), changed(name, func(x *scene) {
				x.own.Sent, x.own.Got, x.own.Acks = l, l, l
				x.lay()
			}), api.OK)
		}
	}
}

// K2: a state has no two marks of one packet: what is sent stands in the place of what stood there.
func TestSentInThePlaceOfAnother(t *testing.T) {
	for _, name := range []string{"Send", "Send*"} {
		x := good(name)
		x.own.Sent = put(x.own.Sent, x.i, x.end().Send, filled(60))
		count := len(x.own.Sent)
		check(t, "a mark that there is", x.ready(), api.OK)
		if s, _, _ := x.ready().do(); len(s.Sent) != count {
			t.Errorf("%s: %v comes", name, s.Sent)
		}
	}
}

// fault is an error, and what brings it about.
type fault struct {
	err    api.Errno
	change func(x *scene)
}

func faultsOfPacket() []fault {
	return []fault{
		{api.ErrRange, func(x *scene) { x.p.Timeout = 0 }},
		{api.ErrMuch, func(x *scene) { x.p.Data = make([]byte, 151) }},
	}
}

func faultsOfEnd(name string) []fault {
	noChan := func(x *scene) { x.i = 5 }
	switch {
	case face(name) == "Recv":
		noChan = func(x *scene) { x.p.To = 5 }
	case settles(name):
		noChan = func(x *scene) { x.p.From = 5 }
	}
	at := 1
	if ordered(name) {
		at = 2
	}
	out := []fault{{api.ErrName, func(x *scene) { x.own.Name = "A" }}, {api.ErrNone, noChan}}
	for stands := api.ChInit; stands <= api.ChClosed; stands++ {
		if stands != api.ChOpen && !(stands == api.ChClosed && settles(name)) {
			out = append(out, fault{api.ErrState, func(x *scene) { x.own.Chans[at].State = stands }})
		}
	}
	return append(out, []fault{
		{api.ErrNone, func(x *scene) { x.own.Chans[at].Conn = 5 }},
		{api.ErrState, func(x *scene) { x.own.Conns[2].State = api.CoInit }},
		{api.ErrState, func(x *scene) { x.own.Conns[2].State = api.CoTry }},
		{api.ErrFit, func(x *scene) { x.own.Conns[2].OtherConn = -1 }},
		{api.ErrNone, func(x *scene) { x.own.Conns[2].Client = 3 }},
		{api.ErrState, func(x *scene) { x.own.Clients[1].Frozen = true }},
		{api.ErrState, func(x *scene) { x.own.Time = 26 }},
	}...)
}

// many is of as many marks as there may be, of none of the packets.
func many() []api.Mark {
	var out []api.Mark
	for n := range 50 {
		out = append(out, mark(7, n+1, filled(byte(n))))
	}
	return out
}

func faultsOfSend(at int) []fault {
	return []fault{
		{api.ErrRange, func(x *scene) { x.own.Chans[at].OtherChan = -1 }},
		{api.ErrRange, func(x *scene) { x.timeout = 0 }},
		{api.ErrMuch, func(x *scene) { x.data = make([]byte, 151) }},
		{api.ErrTime, func(x *scene) { x.timeout = 6 }},
		{api.ErrMany, func(x *scene) { x.own.Sent = many() }},
		{api.ErrMany, func(x *scene) { x.own.Chans[at].Send = api.MaxNum }},
	}
}

func faultsOfRecv(name string) []fault {
	turn := fault{api.ErrState, func(x *scene) { x.own.Got = []api.Mark{mark(1, 12, filled(9))} }}
	most := fault{api.ErrMany, func(x *scene) { x.own.Chans[1].Recv = api.MaxNum }}
	if ordered(name) {
		turn.change = func(x *scene) { x.own.Chans[2].Recv = 29 }
		most.change = func(x *scene) {
			x.own.Chans[2].Recv = api.MaxNum
			x.repack(func(x *scene) { x.p.Seq = api.MaxNum })
		}
	}
	return []fault{
		{api.ErrFit, func(x *scene) { x.p.From = 8 }},
		{api.ErrTime, func(x *scene) { x.p.Timeout = 4 }},
		turn,
		{api.ErrMany, func(x *scene) { x.own.Got = many() }},
		{api.ErrMany, func(x *scene) { x.own.Acks = many() }},
		{api.ErrMany, func(x *scene) { x.ack = make([]byte, 151) }},
		most,
	}
}

func faultsOfSender() []fault {
	return []fault{
		{api.ErrFit, func(x *scene) { x.p.To = 8 }},
		{api.ErrNone, func(x *scene) { x.own.Sent = many() }},
		{api.ErrFit, func(x *scene) { x.p.Data = []byte("other") }},
	}
}

func faultsOfAck(name string) []fault {
	out := []fault{{api.ErrMuch, func(x *scene) { x.ack = make([]byte, 151) }}}
	if ordered(name) {
		out = append(out,
			fault{api.ErrState, func(x *scene) { x.own.Chans[2].Ack = 20 }},
			fault{api.ErrMany, func(x *scene) {
				x.own.Chans[2].Ack = api.MaxNum
				x.repack(func(x *scene) { x.p.Seq = api.MaxNum })
			}})
	}
	return out
}

func faultsOfTimeout(name string) []fault {
	out := []fault{{api.ErrTime, func(x *scene) { x.repack(func(x *scene) { x.p.Timeout = 7 }) }}}
	if ordered(name) {
		out = append(out, fault{api.ErrState, func(x *scene) { x.next = 20 }}, fault{api.ErrState, func(x *scene) { x.next = 0 }})
	}
	return out
}

func faultsOfShown(name string) []fault {
	spoilt := func(x *scene) { delete(x.theirs, x.key) }
	if name == "Timeout" {
		spoilt = func(x *scene) { x.theirs[x.key] = "received" }
	}
	return []fault{
		{api.ErrNone, func(x *scene) { x.height = 5 }},
		{api.ErrProof, spoilt},
		{api.ErrProof, func(x *scene) { x.key = "conn/0" }},
	}
}

// faultsOf are in the order in which the chapter names them; those of one error, one behind the other, may undo each other.
func faultsOf(name string) []fault {
	switch face(name) {
	case "Send":
		return append(faultsOfEnd(name), faultsOfSend(good(name).i)...)
	case "Recv":
		return slices.Concat(faultsOfPacket(), faultsOfEnd(name), faultsOfRecv(name), faultsOfShown(name))
	case "Ack":
		return slices.Concat(faultsOfPacket(), faultsOfEnd(name), faultsOfSender(), faultsOfAck(name), faultsOfShown(name))
	}
	return slices.Concat(faultsOfPacket(), faultsOfEnd(name), faultsOfSender(), faultsOfTimeout(name), faultsOfShown(name))
}

// K2 to K4: of up to three errors that fit, and of all from one on, the first one is told.
func TestTheFirstError(t *testing.T) {
	for _, name := range faces {
		t.Run(name, func(t *testing.T) {
			t.Parallel()
			faults := faultsOf(name)
			try := func(places ...int) {
				x := good(name)
				for _, place := range slices.Backward(places) {
					faults[place].change(&x)
				}
				check(t, fmt.Sprintf("faults %v", places), x.ready(), faults[places[0]].err)
			}
			var rest []int
			for a := len(faults) - 1; a >= 0 && !t.Failed(); a-- {
				rest = append([]int{a}, rest...)
				try(rest...)
				for b := a; b < len(faults); b++ {
					for c := b; c < len(faults); c++ {
						try(slices.Compact([]int{a, b, c})...)
					}
				}
			}
		})
	}
}

// K1: what Wrong says of the state is told as it is, behind what it says of the packet.
func TestWrongStates(t *testing.T) {
	for want, change := range map[api.Errno]func(s *api.State){
		api.ErrName:  func(s *api.State) { s.Name = "" },
		api.ErrRange: func(s *api.State) { s.Time = api.MaxNum + 1 },
		api.ErrMany:  func(s *api.State) { s.Chans = make([]api.Chan, 9) },
		api.ErrKind:  func(s *api.State) { s.Chans[3].State = 5 },
		api.ErrForm:  func(s *api.State) { s.Got[0].Digest = nil },
		api.ErrMuch:  func(s *api.State) { s.Purses[0].Owner = "" },
	} {
		for _, name := range faces {
			check(t, "a wrong state", changed(name, func(x *scene) { change(&x.own) }), want)
		}
	}
	for _, name := range faces {
		x := good(name).ready()
		x.s = api.State{}
		check(t, "no state", x, api.ErrName)
		x.s = api.State{Name: "a"}
		check(t, "nothing but a name", x, api.ErrNone)
		check(t, "a client that knows nothing", changed(name, func(x *scene) { x.own.Clients[2].Known = nil }), api.ErrMany)
		check(t, "marks that fall", changed(name, func(x *scene) { slices.Reverse(x.own.Sent) }), api.ErrForm)
	}
	for _, name := range carrying {
		check(t, "no packet", call{name: name}, api.ErrRange)
	}
}

// K1: channels are those that there are, from 0 on.
func TestNumbersOfChannels(t *testing.T) {
	for _, n := range edges {
		want := map[bool]api.Errno{true: api.ErrState, false: api.ErrNone}[n == 3 || n == 4]
		sent := want
		if n >= 0 && n <= 2 {
			sent = api.OK
		}
		check(t, fmt.Sprintf("channel %d", n), changed("Send", func(x *scene) { x.i = n }), sent)
		if n < 0 || n > api.MaxNum {
			continue // There is no such packet.
		}
		for _, name := range carrying {
			got := want
			if n <= 2 {
				got = api.OK
			}
			check(t, fmt.Sprintf("channel %d", n), changed(name, func(x *scene) {
				own := *x.end()
				x.repack(func(x *scene) {
					if x.own.Got, x.own.Acks = nil, nil; face(name) == "Recv" {
						x.p.To = n
					} else {
						x.p.From = n
					}
				})
				if n <= 2 {
					x.own.Chans[n] = own
				}
			}), got)
		}
	}
}

// K1: a channel stands as it must; how it stands that is asked for another call means nothing.
func TestHowChannelsStand(t *testing.T) {
	for _, name := range faces {
		for stands, want := range map[int]api.Errno{api.ChInit: api.ErrState, api.ChTry: api.ErrState, api.ChOpen: api.OK, api.ChClosed: api.ErrState} {
			if stands == api.ChClosed && settles(name) {
				want = api.OK
			}
			check(t, fmt.Sprintf("one that stands as %d", stands), changed(name, func(x *scene) { x.end().State = stands }), want)
		}
	}
}

// K1: connections and clients are those that there are, from 0 on.
func TestNumbersOfWhatIsUsed(t *testing.T) {
	for _, name := range faces {
		for n, want := range map[int]api.Errno{0: api.OK, 1: api.ErrState, 2: api.OK, 3: api.ErrState, 4: api.ErrFit, 5: api.ErrNone, 8: api.ErrNone, api.MaxNum: api.ErrNone} {
			check(t, fmt.Sprintf("connection %d", n), changed(name, func(x *scene) {
				x.own.Conns[0] = x.own.Conns[2]
				x.end().Conn = n
			}), want)
		}
		for n, want := range map[int]api.Errno{0: api.OK, 1: api.OK, 2: api.OK, 3: api.ErrNone, 4: api.ErrNone, api.MaxNum: api.ErrNone} {
			check(t, fmt.Sprintf("client %d", n), changed(name, func(x *scene) {
				x.own.Clients[0], x.own.Clients[2] = x.own.Clients[1], x.own.Clients[1]
				x.own.Conns[2].Client = n
			}), want)
		}
		check(t, "numbers that mean nothing", changed(name, func(x *scene) { x.own.Conns[2].OtherClient, x.own.Conns[2].OtherConn = 0, 0 }), api.OK)
	}
}

// K1: the client is active as long as it trusts what it knows last, at the state's own time.
func TestTheClientIsActive(t *testing.T) {
	for _, name := range faces {
		for time, want := range map[int]api.Errno{0: api.OK, 5: api.OK, 6: api.OK, 25: api.OK, 26: api.ErrState, 27: api.ErrState, api.MaxNum: api.ErrState} {
			check(t, fmt.Sprintf("time %d", time), changed(name, func(x *scene) { x.own.Time = time }), want)
		}
		check(t, "trusted for long", changed(name, func(x *scene) { x.own.Time, x.own.Clients[1].Trust = api.MaxNum, api.MaxNum }), api.OK)
		check(t, "others are frozen", changed(name, func(x *scene) { x.own.Clients[0].Frozen, x.own.Clients[2].Frozen = true, true }), api.OK)
		check(t, "others are late", changed(name, func(x *scene) { x.own.Clients[0].Trust, x.own.Clients[2].Trust = 1, 1 }), api.OK)
	}
}

// Z5: who is not asked for something doesn't look at it.
func TestWhatIsNotAsked(t *testing.T) {
	for _, n := range edges {
		for _, name := range faces {
			check(t, fmt.Sprintf("fields that it has not, %d", n), changed(name, func(x *scene) {
				if face(name) != "Send" {
					x.i, x.data, x.timeout = n, make([]byte, 200), n
				} else {
					x.p, x.ack, x.height = api.Packet{From: n}, make([]byte, 200), n
				}
				if face(name) == "Timeout" {
					x.ack = make([]byte, 200)
				}
				if name != "Timeout*" {
					x.next = n
				}
				if n >= 1 && n < api.MaxNum {
					notAskedOfChannels(x, n)
				}
			}), api.OK)
		}
	}
}

// notAskedOfChannels changes those numbers of a channel that the call neither reads nor writes.
func notAskedOfChannels(x *scene, n int) {
	own := x.end()
	if face(x.name) != "Send" {
		own.Send = n
	}
	if face(x.name) != "Recv" {
		own.Recv, x.own.Height = n, n
	} else if !own.Ordered {
		own.Recv = n
	}
	if x.name != "Ack*" {
		own.Ack = n
	}
}
