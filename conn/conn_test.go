package conn

import (
	"fmt"
	"math"
	"slices"
	"testing"

	"landbridge/api"
	"landbridge/book"
	"landbridge/proof"
	"landbridge/state"
)

// checkConns is for calls that must make no error: which connections there are then, all else being as it was.
func checkConns(t *testing.T, note string, x call, wantN int, want ...api.Conn) {
	t.Helper()
	before := tell(x.s)
	s, n, err := checkCall(t, note, x)
	if err != api.OK || n != wantN || !slices.Equal(s.Conns, want) {
		t.Errorf("%s, %s: %v, %d and %d come", x.name, note, s.Conns, n, err)
	}
	if wrong := state.Wrong(s); wrong != api.OK {
		t.Errorf("%s, %s: the state is wrong: %d", x.name, note, wrong)
	}
	s.Conns = x.s.Conns
	if tell(s) != before {
		t.Errorf("%s, %s: more has changed: %v", x.name, note, s)
	}
}

// I2: the document's example first.
func TestBegunWaits(t *testing.T) {
	s := api.State{Name: "a", Clients: []api.Client{following("b")}}
	checkConns(t, "the first one", call{name: "Init", s: s}, 0, api.Conn{State: api.CoInit, OtherConn: -1})
	s.Conns = []api.Conn{{State: api.CoOpen, OtherConn: 3}}
	checkConns(t, "the second one", call{name: "Init", s: s, other: 7}, 1, s.Conns[0], api.Conn{State: api.CoInit, OtherClient: 7, OtherConn: -1})
}

// I2
func TestWhatComesOfIt(t *testing.T) {
	own := sample().Conns
	checkConns(t, "ordinary", good("Init").ready(), 4, append(slices.Clone(own), api.Conn{State: api.CoInit, Client: 1, OtherClient: 2, OtherConn: -1})...)
	checkConns(t, "ordinary", good("Try").ready(), 4, append(slices.Clone(own), api.Conn{State: api.CoTry, Client: 1, OtherClient: 2, OtherConn: 6})...)
	acked := slices.Clone(own)
	acked[3] = api.Conn{State: api.CoOpen, Client: 1, OtherClient: 2, OtherConn: 5}
	checkConns(t, "ordinary", good("Ack").ready(), 0, acked...)
	confirmed := slices.Clone(own)
	confirmed[1] = api.Conn{State: api.CoOpen, Client: 1, OtherClient: 2, OtherConn: 4}
	checkConns(t, "ordinary", good("Confirm").ready(), 0, confirmed...)
}

// I2: one that waits becomes what it is told, whatever it held for its other end's number.
func TestAckOfAnotherNumber(t *testing.T) {
	x := changed("Ack", func(x *scene) { x.own.Conns[3].OtherConn = 77 })
	want := slices.Clone(x.s.Conns)
	want[3] = api.Conn{State: api.CoOpen, Client: 1, OtherClient: 2, OtherConn: 5}
	checkConns(t, "another number", x, 0, want...)
}

// fault is an error, and what brings it about.
type fault struct {
	err    api.Errno
	change func(x *scene)
}

// faultsOf are in the order in which I1 names them; those of one error, one behind the other, may undo each other.
func faultsOf(name string) []fault {
	wrong := fault{api.ErrName, func(x *scene) { x.own.Name = "A" }}
	frozen := fault{api.ErrState, func(x *scene) { x.own.Clients[1].Frozen = true }}
	late := fault{api.ErrState, func(x *scene) { x.own.Time = 26 }}
	unknown := fault{api.ErrNone, func(x *scene) { x.height = 5 }}
	gone := fault{api.ErrProof, func(x *scene) { delete(x.theirs, map[string]int{"Try": 6, "Ack": 5, "Confirm": 4}[x.name]) }}
	other := fault{api.ErrProof, func(x *scene) { x.key = "conn/0" }}
	many := fault{api.ErrMany, func(x *scene) { x.own.Conns = append(x.own.Conns, x.own.Conns...) }}
	otherRange := fault{api.ErrRange, func(x *scene) { x.other = -1 }}
	connRange := fault{api.ErrRange, func(x *scene) { x.otherConn = api.MaxNum + 1 }}
	noClient := func(n int) fault { return fault{api.ErrNone, func(x *scene) { x.c = n }} }
	noEnd := func(n int) fault { return fault{api.ErrNone, func(x *scene) { x.i = n }} }
	stands := func(at, n int) fault { return fault{api.ErrState, func(x *scene) { x.own.Conns[at].State = n }} }
	overNone := func(at int) fault { return fault{api.ErrNone, func(x *scene) { x.own.Conns[at].Client = 3 }} }
	switch name {
	case "Init":
		return []fault{wrong, noClient(-1), noClient(3), frozen, late, otherRange, many}
	case "Try":
		return []fault{wrong, noClient(-1), noClient(3), frozen, late, otherRange, connRange, unknown, gone, other, many}
	case "Ack":
		return []fault{wrong, noEnd(-1), noEnd(4), stands(3, api.CoTry), stands(3, api.CoOpen), overNone(3), frozen, late, connRange, unknown, gone, other}
	}
	fit := fault{api.ErrFit, func(x *scene) { x.own.Conns[1].OtherConn = -1 }}
	return []fault{wrong, noEnd(-1), noEnd(4), stands(1, api.CoInit), stands(1, api.CoOpen), overNone(1), frozen, late, fit, unknown, gone, other}
}

// I1: of all errors that fit, however many, the first one is told.
func TestTheFirstError(t *testing.T) {
	for _, name := range faces {
		faults := faultsOf(name)
		for set := range 1 << len(faults) {
			x, want := good(name), api.OK
			for i, f := range faults {
				if set>>i&1 == 0 {
					continue
				}
				f.change(&x)
				if want == api.OK {
					want = f.err
				}
			}
			check(t, fmt.Sprintf("faults %b", set), x.ready(), want)
			if t.Failed() {
				return
			}
		}
	}
}

// I1: what Wrong says of the state is told as it is.
func TestWrongStates(t *testing.T) {
	for want, change := range map[api.Errno]func(s *api.State){
		api.ErrName:  func(s *api.State) { s.Name = "" },
		api.ErrRange: func(s *api.State) { s.Time = api.MaxNum + 1 },
		api.ErrMany:  func(s *api.State) { s.Conns = make([]api.Conn, 9) },
		api.ErrKind:  func(s *api.State) { s.Conns[2].State = 4 },
		api.ErrForm:  func(s *api.State) { s.Got[0].Digest = nil },
		api.ErrMuch:  func(s *api.State) { s.Purses[0].Owner = "" },
	} {
		for _, name := range faces {
			check(t, "a wrong state", changed(name, func(x *scene) { change(&x.own) }), want)
		}
	}
	for _, name := range faces {
		check(t, "no state", call{name: name}, api.ErrName)
		check(t, "nothing but a name", call{name: name, s: api.State{Name: "a"}}, api.ErrNone)
		check(t, "a client that knows nothing", changed(name, func(x *scene) { x.own.Clients[2].Known = nil }), api.ErrMany)
	}
}

// edges are numbers at which something may end, and great ones.
var edges = []int{math.MinInt, math.MinInt + 1, -api.MaxNum, -2, -1, 0, 1, 2, 3, 4, 5, 6, 7, 8, 1 << 32, api.MaxNum - 1, api.MaxNum, api.MaxNum + 1, math.MaxInt - 1, math.MaxInt}

// I1: connections and clients are those that there are, from 0 on.
func TestNumbersOfWhatThereIs(t *testing.T) {
	for _, n := range edges {
		for _, name := range []string{"Init", "Try"} {
			want := api.ErrNone
			if n >= 0 && n < 3 {
				want = api.OK
			}
			x := changed(name, func(x *scene) {
				x.c = n
				x.own.Clients[0], x.own.Clients[2] = x.own.Clients[1], x.own.Clients[1]
				x.theirs[6] = api.Conn{State: api.CoInit, Client: 2, OtherClient: n, OtherConn: -1}
			})
			check(t, fmt.Sprintf("client %d", n), x, want)
		}
		for name, at := range map[string]int{"Ack": 3, "Confirm": 1} {
			want := api.ErrNone
			switch {
			case n == at:
				want = api.OK
			case n >= 0 && n < 4:
				want = api.ErrState
			}
			if name == "Confirm" && n == 2 {
				want = api.ErrFit
			}
			check(t, fmt.Sprintf("connection %d", n), changed(name, func(x *scene) { x.i = n }), want)
		}
	}
	for n := range 3 {
		for name, at := range map[string]int{"Ack": 3, "Confirm": 1} {
			x := changed(name, func(x *scene) {
				x.own.Clients[0], x.own.Clients[2] = x.own.Clients[1], x.own.Clients[1]
				x.own.Conns[at].Client = n
				for i, c := range x.theirs {
					c.OtherClient = n
					x.theirs[i] = c
				}
			})
			check(t, fmt.Sprintf("over client %d", n), x, api.OK)
		}
	}
}

// I1: the other chain's numbers are from 0 to MaxNum, and all these are good.
func TestNumbersOfTheOtherChain(t *testing.T) {
	for _, n := range edges {
		want := api.OK
		if n < 0 || n > 1000000000000 {
			want = api.ErrRange
		}
		check(t, fmt.Sprintf("other %d", n), changed("Init", func(x *scene) { x.other = n }), want)
		check(t, fmt.Sprintf("other %d", n), changed("Try", func(x *scene) {
			x.other = n
			x.theirs[6] = api.Conn{State: api.CoInit, Client: n, OtherClient: 1, OtherConn: -1}
		}), want)
		for _, name := range []string{"Try", "Ack"} {
			check(t, fmt.Sprintf("otherConn %d", n), changed(name, func(x *scene) {
				x.theirs[n] = x.theirs[x.otherConn]
				x.otherConn, x.key = n, keyText(n)
			}), want)
		}
		if n < 0 || want != api.OK {
			continue
		}
		check(t, fmt.Sprintf("OtherConn %d", n), changed("Confirm", func(x *scene) {
			x.theirs[n] = x.theirs[4]
			x.own.Conns[1].OtherConn, x.key = n, keyText(n)
		}), api.OK)
		for name, at := range map[string]int{"Ack": 3, "Confirm": 1} {
			check(t, fmt.Sprintf("OtherClient %d", n), changed(name, func(x *scene) {
				x.own.Conns[at].OtherClient = n
				for i, c := range x.theirs {
					c.Client = n
					x.theirs[i] = c
				}
			}), api.OK)
		}
	}
}

// I1: Init asks for nothing to be shown, and who goes on is not asked for what he doesn't take.
func TestWhatIsNotAsked(t *testing.T) {
	for _, n := range edges {
		check(t, "fields that it has not", changed("Init", func(x *scene) { x.otherConn, x.i, x.height, x.key = n, n, n, "" }), api.OK)
		check(t, "fields that it has not", changed("Try", func(x *scene) { x.i = n }), api.OK)
		check(t, "fields that it has not", changed("Ack", func(x *scene) { x.c, x.other = n, n }), api.OK)
		check(t, "fields that it has not", changed("Confirm", func(x *scene) { x.c, x.other, x.otherConn = n, n, n }), api.OK)
	}
}

// I1: the client is active as long as it trusts what it knows last, at the state's own time.
func TestTheClientIsActive(t *testing.T) {
	for _, name := range faces {
		for time, want := range map[int]api.Errno{0: api.OK, 5: api.OK, 6: api.OK, 25: api.OK, 26: api.ErrState, 27: api.ErrState, api.MaxNum: api.ErrState} {
			check(t, fmt.Sprintf("time %d", time), changed(name, func(x *scene) { x.own.Time = time }), want)
		}
		check(t, "trusted for long", changed(name, func(x *scene) {
			x.own.Time, x.own.Clients[1].Trust = api.MaxNum, api.MaxNum
		}), api.OK)
		check(t, "trusted for no longer", changed(name, func(x *scene) { x.own.Time, x.own.Clients[1].Trust = 9, 3 }), api.ErrState)
		check(t, "the height means nothing", changed(name, func(x *scene) { x.own.Height = api.MaxNum }), api.OK)
		check(t, "others are frozen", changed(name, func(x *scene) { x.own.Clients[0].Frozen, x.own.Clients[2].Frozen = true, true }), api.OK)
		check(t, "others are late", changed(name, func(x *scene) { x.own.Clients[0].Trust, x.own.Clients[2].Trust = 1, 1 }), api.OK)
	}
}

// I1: there are no more than MaxConns, told behind all else; who goes on adds none.
func TestHowMany(t *testing.T) {
	for _, name := range faces {
		for count := 4; count <= 8; count++ {
			want := api.OK
			if count == 8 && (name == "Init" || name == "Try") {
				want = api.ErrMany
			}
			check(t, fmt.Sprintf("%d connections", count), changed(name, func(x *scene) {
				for len(x.own.Conns) < count {
					x.own.Conns = append(x.own.Conns, api.Conn{State: api.CoInit})
				}
			}), want)
		}
	}
}

// I1: each part of what the other end must be counts.
func TestWhatMustBeShown(t *testing.T) {
	for name, at := range map[string]int{"Try": 6, "Ack": 5, "Confirm": 4} {
		check(t, "as it must be", changed(name, func(x *scene) {}), api.OK)
		right := good(name).theirs[at]
		for stands := range 5 {
			want := api.ErrProof
			if stands == right.State {
				want = api.OK
			}
			check(t, fmt.Sprintf("state %d", stands), changed(name, func(x *scene) {
				x.theirs[at] = api.Conn{State: stands, Client: right.Client, OtherClient: right.OtherClient, OtherConn: right.OtherConn}
			}), want)
		}
		for _, n := range []int{0, 1, 2, 3, 4, 5, 6, 7, api.MaxNum} {
			for field, is := range map[string]bool{"Client": n == right.Client, "OtherClient": n == right.OtherClient, "OtherConn": n == right.OtherConn} {
				want := api.ErrProof
				if is {
					want = api.OK
				}
				check(t, fmt.Sprintf("%s %d", field, n), changed(name, func(x *scene) {
					c := right
					*map[string]*int{"Client": &c.Client, "OtherClient": &c.OtherClient, "OtherConn": &c.OtherConn}[field] = n
					x.theirs[at] = c
				}), want)
			}
		}
		// The same under another number is not shown, though it stands there.
		check(t, "another number", changed(name, func(x *scene) {
			x.theirs[8] = right
			x.key = "conn/8"
		}), api.ErrProof)
	}
}

// I1: what is shown, and of when.
func TestHowItMustBeShown(t *testing.T) {
	for _, name := range []string{"Try", "Ack", "Confirm"} {
		for height, want := range map[int]api.Errno{6: api.OK, 3: api.ErrProof, 5: api.ErrNone, 7: api.ErrNone, 0: api.ErrNone, -1: api.ErrNone, math.MinInt: api.ErrNone, math.MaxInt: api.ErrNone} {
			check(t, fmt.Sprintf("height %d", height), changed(name, func(x *scene) { x.height = height }), want)
		}
		for note, spoil := range map[string]func(p *api.Proof){
			"nothing":          func(p *api.Proof) { *p = api.Proof{} },
			"no key":           func(p *api.Proof) { p.Key = nil },
			"a longer key":     func(p *api.Proof) { p.Key = append(p.Key, '0') },
			"no value":         func(p *api.Proof) { p.Val = nil },
			"another value":    func(p *api.Proof) { p.Val[2]++ },
			"a longer value":   func(p *api.Proof) { p.Val = append(p.Val, 0) },
			"another place":    func(p *api.Proof) { p.Index++ },
			"no place":         func(p *api.Proof) { p.Index = math.MinInt },
			"another size":     func(p *api.Proof) { p.Size-- },
			"a great size":     func(p *api.Proof) { p.Size = math.MaxInt },
			"no way":           func(p *api.Proof) { p.Path = nil },
			"another way":      func(p *api.Proof) { p.Path[0][0]++ },
			"a way of nothing": func(p *api.Proof) { p.Path[1] = nil },
			"a very long way":  func(p *api.Proof) { p.Path = make([][]byte, 1<<16) },
		} {
			x := good(name).ready()
			spoil(&x.p.Proof)
			check(t, note, x, api.ErrProof)
		}
		// A gap shows nothing here.
		x := changed(name, func(x *scene) { clear(x.theirs) })
		x.p.Gap, _ = proof.ShowGap(nil, []byte("conn/0"))
		check(t, "a gap", x, api.ErrProof)
		x = good(name).ready()
		x.p.Gap = api.Gap{HasLeft: true, HasRight: true, Left: api.Proof{Size: -1}}
		check(t, "a gap beside", x, api.OK)
	}
}

// I1: what is shown must be shown to that connection's client, not to another one.
func TestToWhomItIsShown(t *testing.T) {
	for name, at := range map[string]int{"Try": -1, "Ack": 3, "Confirm": 1} {
		x := changed(name, func(x *scene) {
			x.c = 2
			if at >= 0 {
				x.own.Conns[at].Client = 2
			}
			for i, c := range x.theirs {
				c.OtherClient = 2
				x.theirs[i] = c
			}
		})
		check(t, "client 1 alone would believe it", x, api.ErrProof)
		x.s.Clients[2].Known[0].Root = x.s.Clients[1].Known[1].Root
		x.p.Height = 3
		check(t, "client 2 believes it at another height", x, api.OK)
	}
}

// I1: the value must be just what a state's book has, as package state makes it.
func TestShownOfStates(t *testing.T) {
	theirs := api.State{Name: "b", Height: 6, Time: 6, Chans: sample().Chans, Sent: sample().Sent}
	for n := range 7 {
		theirs.Conns = append(theirs.Conns, good("Try").theirs[n])
		if theirs.Conns[n].State == 0 {
			theirs.Conns[n] = api.Conn{State: api.CoInit, OtherConn: -1}
		}
	}
	pairs, err := state.Book(theirs)
	if err != api.OK {
		t.Fatal(err)
	}
	root, _ := book.Root(pairs)
	for _, name := range []string{"Try", "Ack", "Confirm"} {
		x := good(name).ready()
		x.s.Clients[1].Known[1].Root = root
		x.p.Proof, _ = proof.Show(pairs, x.p.Proof.Key)
		check(t, "of a state", x, api.OK)
	}
}

// I1, of a client alone: which there are, and which of them may be asked.
func TestDoubtsOfClients(t *testing.T) {
	s := sample()
	s.Clients[0].Frozen = true
	s.Clients[2].Trust = 3
	for _, n := range edges {
		want := api.ErrNone
		switch n {
		case 0, 2:
			want = api.ErrState
		case 1:
			want = api.OK
		}
		if err := DoubtsOfClient(s, n); err != want {
			t.Errorf("%d: %d comes, not %d", n, err, want)
		}
	}
	// Z1: of whatever states.
	for _, wrong := range []api.State{{}, {Clients: make([]api.Client, 9), Time: math.MinInt}, {Clients: []api.Client{{Trust: math.MinInt, Known: make([]api.Known, 1)}}, Time: math.MaxInt}} {
		DoubtsOfClient(wrong, 0)
	}
}
