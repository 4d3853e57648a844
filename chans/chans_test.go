package chans

import (
	"fmt"
	"math"
	"slices"
	"testing"

	"landbridge/api"
	"landbridge/book"
	"landbridge/proof"
	"landbridge/state"
)

// checkChans is for calls that must make no error: which channels there are then, all else being as it was.
func checkChans(t *testing.T, note string, x call, wantN int, want ...api.Chan) {
	t.Helper()
	before := tell(x.s)
	s, n, err := checkCall(t, note, x)
	if err != api.OK || n != wantN || !slices.Equal(s.Chans, want) {
		t.Errorf("%s, %s: %v, %d and %d come", x.name, note, s.Chans, n, err)
	}
	if wrong := state.Wrong(s); wrong != api.OK {
		t.Errorf("%s, %s: the state is wrong: %d", x.name, note, wrong)
	}
	s.Chans = x.s.Chans
	if tell(s) != before {
		t.Errorf("%s, %s: more has changed: %v", x.name, note, s)
	}
}

// J2
func TestTheFirstChannel(t *testing.T) {
	s := api.State{Name: "a", Clients: []api.Client{following("b")}, Conns: []api.Conn{{State: api.CoOpen}}}
	for _, ordered := range []bool{false, true} {
		want := api.Chan{State: api.ChInit, Ordered: ordered, OtherChan: -1, Send: 1, Recv: 1, Ack: 1}
		x := call{name: "Init", s: s, ordered: ordered}
		x.s.Chans = nil
		checkChans(t, "the first one", x, 0, want)
		x.s.Chans = []api.Chan{{State: api.ChClosed, Conn: 5, OtherChan: 3, Send: 2, Recv: 2, Ack: 2}}
		checkChans(t, "the second one", x, 1, x.s.Chans[0], want)
	}
}

// J2: what channel i is then, and nothing else of it than is told.
func TestWhatComesOfIt(t *testing.T) {
	own := sample().Chans
	with := func(i int, c api.Chan) []api.Chan {
		out := slices.Clone(own)
		out[i] = c
		return out
	}
	checkChans(t, "ordinary", good("Init").ready(), 5, append(slices.Clone(own), api.Chan{State: api.ChInit, Ordered: true, Conn: 2, OtherChan: -1, Send: 1, Recv: 1, Ack: 1})...)
	checkChans(t, "ordinary", good("Try").ready(), 5, append(slices.Clone(own), api.Chan{State: api.ChTry, Ordered: true, Conn: 2, OtherChan: 9, Send: 1, Recv: 1, Ack: 1})...)
	checkChans(t, "ordinary", good("Ack").ready(), 0, with(1, api.Chan{State: api.ChOpen, Ordered: true, Conn: 2, OtherChan: 8, Send: 14, Recv: 15, Ack: 16})...)
	checkChans(t, "ordinary", good("Confirm").ready(), 0, with(4, api.Chan{State: api.ChOpen, Ordered: true, Conn: 2, OtherChan: 5, Send: 23, Recv: 24, Ack: 25})...)
	closed := with(3, api.Chan{State: api.ChClosed, Conn: 2, OtherChan: 6, Send: 20, Recv: 21, Ack: 22})
	checkChans(t, "ordinary", good("Close").ready(), 0, closed...)
	checkChans(t, "ordinary", good("Closed").ready(), 0, closed...)
}

// J1: the document's example: a channel that is closed stays closed, whatever is shown.
func TestClosedStaysClosed(t *testing.T) {
	for _, name := range []string{"Ack", "Confirm", "Close", "Closed"} {
		for stands := range 5 {
			x := good(name)
			x.own.Chans[x.i].State = api.ChClosed
			x.theirs[6] = api.Chan{State: stands, Conn: 11, OtherChan: 3}
			check(t, "a closed one", x.ready(), api.ErrState)
		}
	}
}

// J2: one that waits becomes what it is told, whatever it held for its other end's number.
func TestAckOfAnotherNumber(t *testing.T) {
	x := changed("Ack", func(x *scene) { x.own.Chans[1].OtherChan = 77 })
	want := slices.Clone(x.s.Chans)
	want[1].State, want[1].OtherChan = api.ChOpen, 8
	checkChans(t, "another number", x, 0, want...)
}

// J1: Close asks neither for the other end's number nor for anything to be shown.
func TestCloseOfAnUnknownEnd(t *testing.T) {
	x := changed("Close", func(x *scene) { x.own.Chans[3].OtherChan = -1 })
	want := slices.Clone(x.s.Chans)
	want[3].State = api.ChClosed
	checkChans(t, "an unknown end", x, 0, want...)
}

// fault is an error, and what brings it about.
type fault struct {
	err    api.Errno
	change func(x *scene)
}

// faultsOfUse are those of a connection that is used, in the order in which J1 names them.
func faultsOfUse(name string) []fault {
	noConn := fault{api.ErrNone, func(x *scene) { x.i = 5 }}
	if at := good(name).i; goesOn(name) {
		noConn.change = func(x *scene) { x.own.Chans[at].Conn = 5 }
	}
	return []fault{
		noConn,
		{api.ErrState, func(x *scene) { x.own.Conns[2].State = api.CoInit }},
		{api.ErrState, func(x *scene) { x.own.Conns[2].State = api.CoTry }},
		{api.ErrFit, func(x *scene) { x.own.Conns[2].OtherConn = -1 }},
		{api.ErrNone, func(x *scene) { x.own.Conns[2].Client = 3 }},
		{api.ErrState, func(x *scene) { x.own.Clients[1].Frozen = true }},
		{api.ErrState, func(x *scene) { x.own.Time = 26 }},
	}
}

// faultsOf are in the order in which J1 names them; those of one error, one behind the other, may undo each other.
func faultsOf(name string) []fault {
	out := []fault{{api.ErrName, func(x *scene) { x.own.Name = "A" }}}
	if goesOn(name) {
		at := good(name).i
		out = append(out, fault{api.ErrNone, func(x *scene) { x.i = 5 }})
		for stands := api.ChInit; stands <= api.ChClosed; stands++ {
			if stands != sample().Chans[at].State {
				out = append(out, fault{api.ErrState, func(x *scene) { x.own.Chans[at].State = stands }})
			}
		}
	}
	out = append(out, faultsOfUse(name)...)
	switch name {
	case "Confirm", "Closed":
		at := good(name).i
		out = append(out, fault{api.ErrFit, func(x *scene) { x.own.Chans[at].OtherChan = -1 }})
	case "Try", "Ack":
		out = append(out, fault{api.ErrRange, func(x *scene) { x.other = api.MaxNum + 1 }})
	}
	if at, shows := otherEnd(name); shows {
		out = append(out,
			fault{api.ErrNone, func(x *scene) { x.height = 5 }},
			fault{api.ErrProof, func(x *scene) { delete(x.theirs, at) }},
			fault{api.ErrProof, func(x *scene) { x.key = "chan/0" }},
		)
	}
	if !goesOn(name) {
		out = append(out, fault{api.ErrMany, func(x *scene) { x.own.Chans = append(x.own.Chans, x.own.Chans[:3]...) }})
	}
	return out
}

// J1: of all errors that fit, however many, the first one is told.
func TestTheFirstError(t *testing.T) {
	for _, name := range faces {
		t.Run(name, func(t *testing.T) {
			t.Parallel()
			faults := faultsOf(name)
			for set := range 1 << len(faults) {
				x, want := good(name), api.OK
				for i, f := range slices.Backward(faults) {
					if set>>i&1 == 1 {
						f.change(&x)
						want = f.err
					}
				}
				check(t, fmt.Sprintf("faults %b", set), x.ready(), want)
				if t.Failed() {
					return
				}
			}
		})
	}
}

// J1: what Wrong says of the state is told as it is.
func TestWrongStates(t *testing.T) {
	for want, change := range map[api.Errno]func(s *api.State){
		api.ErrName:  func(s *api.State) { s.Name = "" },
		api.ErrRange: func(s *api.State) { s.Time = api.MaxNum + 1 },
		api.ErrMany:  func(s *api.State) { s.Chans = make([]api.Chan, 9) },
		api.ErrKind:  func(s *api.State) { s.Chans[2].State = 5 },
		api.ErrForm:  func(s *api.State) { s.Got[0].Digest = nil },
		api.ErrMuch:  func(s *api.State) { s.Purses[0].Owner = "" },
	} {
		for _, name := range faces {
			check(t, "a wrong state", changed(name, func(x *scene) { change(&x.own) }), want)
		}
	}
	for _, name := range faces {
		check(t, "no state", call{name: name}, api.ErrName)
		check(t, "nothing but a name", call{name: name, s: api.State{Name: "a"}}, api.ErrNone)
		check(t, "a client that knows nothing", changed(name, func(x *scene) { x.own.Clients[2].Known = nil }), api.ErrMany)
	}
}

// edges are numbers at which something may end, and great ones.
var edges = []int{math.MinInt, math.MinInt + 1, -api.MaxNum, -2, -1, 0, 1, 2, 3, 4, 5, 6, 7, 8, 1 << 32, api.MaxNum - 1, api.MaxNum, api.MaxNum + 1, math.MaxInt - 1, math.MaxInt}

// J1: channels are those that there are, from 0 on.
func TestNumbersOfChannels(t *testing.T) {
	for _, n := range edges {
		for _, name := range []string{"Ack", "Confirm", "Close", "Closed"} {
			want := api.ErrNone
			switch {
			case n == good(name).i:
				want = api.OK
			case n == 0 && name == "Close":
				want = api.OK
			case n == 0 && name == "Closed":
				want = api.ErrProof
			case n >= 0 && n < 5:
				want = api.ErrState
			}
			check(t, fmt.Sprintf("channel %d", n), changed(name, func(x *scene) { x.i = n }), want)
		}
	}
	// Each of those that there are can go on, under its own number.
	for _, name := range []string{"Ack", "Confirm", "Close", "Closed"} {
		for n := range 5 {
			check(t, fmt.Sprintf("channel %d", n), changed(name, func(x *scene) {
				x.own.Chans[n] = x.own.Chans[x.i]
				if at, shows := otherEnd(name); shows {
					c := x.theirs[at]
					c.OtherChan = n
					x.theirs[at] = c
				}
				x.i = n
			}), api.OK)
		}
	}
}

// J1: connections and clients are those that there are, from 0 on.
func TestNumbersOfWhatIsUsed(t *testing.T) {
	over := func(name string, n int) func(x *scene) {
		return func(x *scene) {
			if goesOn(name) {
				x.own.Chans[x.i].Conn = n
			} else {
				x.i = n
			}
		}
	}
	for _, name := range faces {
		for _, n := range edges {
			if goesOn(name) && outside(n) {
				continue // The state would be wrong.
			}
			want := api.ErrNone
			switch n {
			case 0, 2:
				want = api.OK
			case 1, 3:
				want = api.ErrState
			case 4:
				want = api.ErrFit
			}
			check(t, fmt.Sprintf("connection %d", n), changed(name, func(x *scene) {
				x.own.Conns[0] = x.own.Conns[2]
				over(name, n)(x)
			}), want)
		}
		for n := range 6 {
			want := api.OK
			if n > 2 {
				want = api.ErrNone
			}
			check(t, fmt.Sprintf("client %d", n), changed(name, func(x *scene) {
				x.own.Clients[0], x.own.Clients[2] = x.own.Clients[1], x.own.Clients[1]
				x.own.Conns[2].Client = n
			}), want)
		}
		check(t, "a great client", changed(name, func(x *scene) { x.own.Conns[2].Client = api.MaxNum }), api.ErrNone)
	}
}

// J1: the other chain's numbers are from 0 to MaxNum, and all these are good.
func TestNumbersOfTheOtherChain(t *testing.T) {
	for _, n := range edges {
		want := api.OK
		if n < 0 || n > 1000000000000 {
			want = api.ErrRange
		}
		for _, name := range []string{"Try", "Ack"} {
			check(t, fmt.Sprintf("other %d", n), changed(name, func(x *scene) {
				x.theirs[n] = x.theirs[x.other]
				x.other, x.key = n, keyText(n)
			}), want)
		}
		if want != api.OK {
			continue
		}
		for _, name := range []string{"Confirm", "Closed"} {
			check(t, fmt.Sprintf("OtherChan %d", n), changed(name, func(x *scene) {
				at, _ := otherEnd(name)
				x.theirs[n] = x.theirs[at]
				x.own.Chans[x.i].OtherChan, x.key = n, keyText(n)
			}), api.OK)
		}
		for _, name := range proving {
			check(t, fmt.Sprintf("OtherConn %d", n), changed(name, func(x *scene) {
				at, _ := otherEnd(name)
				c := x.theirs[at]
				c.Conn = n
				x.theirs[at], x.own.Conns[2].OtherConn = c, n
			}), api.OK)
		}
	}
}

// J1: who is not asked for something doesn't look at it, nor at the other end's client.
func TestWhatIsNotAsked(t *testing.T) {
	for _, n := range edges {
		for _, name := range faces {
			check(t, "fields that it has not", changed(name, func(x *scene) {
				if name != "Try" && name != "Ack" {
					x.other = n
				}
				if goesOn(name) {
					x.ordered = n%2 == 0
				}
				if _, shows := otherEnd(name); !shows {
					x.height, x.key = n, ""
				}
				if !outside(n) {
					x.own.Conns[2].OtherClient = n
				}
			}), api.OK)
		}
	}
}

// J1: the client is active as long as it trusts what it knows last, at the state's own time.
func TestTheClientIsActive(t *testing.T) {
	for _, name := range faces {
		for time, want := range map[int]api.Errno{0: api.OK, 5: api.OK, 6: api.OK, 25: api.OK, 26: api.ErrState, 27: api.ErrState, api.MaxNum: api.ErrState} {
			check(t, fmt.Sprintf("time %d", time), changed(name, func(x *scene) { x.own.Time = time }), want)
		}
		check(t, "trusted for long", changed(name, func(x *scene) {
			x.own.Time, x.own.Clients[1].Trust = api.MaxNum, api.MaxNum
		}), api.OK)
		check(t, "trusted for no longer", changed(name, func(x *scene) { x.own.Time, x.own.Clients[1].Trust = 9, 3 }), api.ErrState)
		check(t, "frozen", changed(name, func(x *scene) { x.own.Clients[1].Frozen = true }), api.ErrState)
		check(t, "the height means nothing", changed(name, func(x *scene) { x.own.Height = api.MaxNum }), api.OK)
		check(t, "others are frozen", changed(name, func(x *scene) { x.own.Clients[0].Frozen, x.own.Clients[2].Frozen = true, true }), api.OK)
		check(t, "others are late", changed(name, func(x *scene) { x.own.Clients[0].Trust, x.own.Clients[2].Trust = 1, 1 }), api.OK)
	}
}

// J1: there are no more than MaxChans, told behind all else; who goes on adds none.
func TestHowMany(t *testing.T) {
	for _, name := range faces {
		for count := 5; count <= 8; count++ {
			want := api.OK
			if count == 8 && !goesOn(name) {
				want = api.ErrMany
			}
			check(t, fmt.Sprintf("%d channels", count), changed(name, func(x *scene) {
				for len(x.own.Chans) < count {
					x.own.Chans = append(x.own.Chans, x.own.Chans[0])
				}
			}), want)
		}
	}
}

// J1: each part of what the other end must be counts.
func TestWhatMustBeShown(t *testing.T) {
	for _, name := range proving {
		at, _ := otherEnd(name)
		right := good(name).theirs[at]
		checkOther := func(note string, c api.Chan) {
			want := api.ErrProof
			if c == right {
				want = api.OK
			}
			check(t, fmt.Sprintf("%s: %v", note, c), changed(name, func(x *scene) { x.theirs[at] = c }), want)
		}
		for stands := range 6 {
			for _, ordered := range []bool{false, true} {
				c := right
				c.State, c.Ordered = stands, ordered
				checkOther("how it stands", c)
			}
		}
		for _, n := range []int{-1, 0, 1, 2, 3, 4, 5, 6, 7, 8, 9, 10, 11, 12, 13, api.MaxNum} {
			c := right
			c.OtherChan = n
			checkOther("OtherChan", c)
			if c = right; n >= 0 {
				c.Conn = n
				checkOther("Conn", c)
			}
		}
		// The same under another number is not shown, though it stands there.
		check(t, "another number", changed(name, func(x *scene) {
			x.theirs[12] = right
			x.key = "chan/12"
		}), api.ErrProof)
		// A connection that is written likewise is no channel.
		check(t, "a connection", changed(name, func(x *scene) { x.key = "conn/0" }), api.ErrProof)
	}
}

// J1: both ends are ordered, or neither is.
func TestOrderedAsTheOtherEnd(t *testing.T) {
	for _, name := range proving {
		at, _ := otherEnd(name)
		for _, ours := range []bool{false, true} {
			for _, theirs := range []bool{false, true} {
				want := api.OK
				if ours != theirs {
					want = api.ErrProof
				}
				check(t, fmt.Sprintf("ordered %v and %v", ours, theirs), changed(name, func(x *scene) {
					x.ordered = ours
					if goesOn(name) {
						x.ordered = !ours
						x.own.Chans[x.i].Ordered = ours
					}
					c := x.theirs[at]
					c.Ordered = theirs
					x.theirs[at] = c
				}), want)
			}
		}
	}
}

// J1: what is shown, and of when.
func TestHowItMustBeShown(t *testing.T) {
	for _, name := range proving {
		for height, want := range map[int]api.Errno{6: api.OK, 3: api.ErrProof, 5: api.ErrNone, 7: api.ErrNone, 0: api.ErrNone, -1: api.ErrNone, math.MinInt: api.ErrNone, math.MaxInt: api.ErrNone} {
			check(t, fmt.Sprintf("height %d", height), changed(name, func(x *scene) { x.height = height }), want)
		}
		for note, spoil := range map[string]func(p *api.Proof){
			"nothing":          func(p *api.Proof) { *p = api.Proof{} },
			"no key":           func(p *api.Proof) { p.Key = nil },
			"a longer key":     func(p *api.Proof) { p.Key = append(p.Key, '0') },
			"no value":         func(p *api.Proof) { p.Val = nil },
			"another value":    func(p *api.Proof) { p.Val[2]++ },
			"a longer value":   func(p *api.Proof) { p.Val = append(p.Val, 0) },
			"another place":    func(p *api.Proof) { p.Index++ },
			"no place":         func(p *api.Proof) { p.Index = math.MinInt },
			"another size":     func(p *api.Proof) { p.Size = 2 },
			"a great size":     func(p *api.Proof) { p.Size = math.MaxInt },
			"no way":           func(p *api.Proof) { p.Path = nil },
			"another way":      func(p *api.Proof) { p.Path[0][0]++ },
			"a way of nothing": func(p *api.Proof) { p.Path[0] = nil },
			"a very long way":  func(p *api.Proof) { p.Path = make([][]byte, 1<<16) },
		} {
			x := good(name).ready()
			spoil(&x.p.Proof)
			check(t, note, x, api.ErrProof)
		}
		// A gap shows nothing here.
		x := changed(name, func(x *scene) { clear(x.theirs) })
		x.p.Gap, _ = proof.ShowGap(nil, []byte("chan/0"))
		check(t, "a gap", x, api.ErrProof)
		x = good(name).ready()
		x.p.Gap = api.Gap{HasLeft: true, HasRight: true, Left: api.Proof{Size: -1}}
		check(t, "a gap beside", x, api.OK)
	}
}

// J1: what is shown must be shown to the connection's client, not to another one.
func TestToWhomItIsShown(t *testing.T) {
	for _, name := range proving {
		x := changed(name, func(x *scene) { x.own.Conns[2].Client = 2 })
		check(t, "client 1 alone would believe it", x, api.ErrProof)
		x.s.Clients[2].Known[0].Root = x.s.Clients[1].Known[1].Root
		x.p.Height = 3
		check(t, "client 2 believes it at another height", x, api.OK)
	}
}

// J1: the value must be just what a state's book has, as package state makes it, whatever the numbers of packets are.
func TestShownOfStates(t *testing.T) {
	theirs := api.State{Name: "b", Height: 6, Time: 6, Conns: sample().Conns, Sent: sample().Sent}
	for n := range 8 {
		theirs.Chans = append(theirs.Chans, api.Chan{State: api.ChInit, OtherChan: n, Send: n + 1, Recv: n + 2, Ack: n + 3})
	}
	for _, name := range proving {
		at, _ := otherEnd(name)
		c := good(name).theirs[at]
		c.Send, c.Recv, c.Ack = 30, 31, 32
		theirs.Chans[at%8] = c
	}
	pairs, err := state.Book(theirs)
	if err != api.OK {
		t.Fatal(err)
	}
	root, _ := book.Root(pairs)
	for _, name := range proving {
		at, _ := otherEnd(name)
		x := good(name)
		x.other = at % 8
		y := x.ready()
		y.s.Clients[1].Known[1].Root = root
		y.p.Proof, _ = proof.Show(pairs, []byte(keyText(at%8)))
		check(t, "of a state", y, api.OK)
	}
}

// J1, of an end alone: it must stand in one of the ways that are told, however many these are.
func TestDoubtsOfEnds(t *testing.T) {
	for _, n := range edges {
		for _, stands := range [][]int{nil, {3}, {4}, {3, 4}, {4, 3}, {1, 2, 3, 4}, {1, 2}, {0, 5}, {-1, math.MaxInt, 4}} {
			s := sample()
			want := api.ErrNone
			if c, there := entry(s.Chans, n); there {
				want = api.ErrState
				if slices.Contains(stands, c.State) {
					want = api.OK
				}
			}
			if err := DoubtsOfEnd(s, n, stands...); err != want {
				t.Errorf("channel %d, one of %v: %d comes, not %d", n, stands, err, want)
			}
			s.Name = "A"
			if err := DoubtsOfEnd(s, n, stands...); err != api.ErrName {
				t.Errorf("channel %d, one of %v, of a wrong state: %d comes", n, stands, err)
			}
		}
	}
}
