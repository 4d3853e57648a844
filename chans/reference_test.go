package chans

import (
	"bytes"
	"encoding/binary"
	"fmt"
	"math"
	"slices"
	"testing"

	"landbridge/api"
	"landbridge/book"
	"landbridge/proof"
	"landbridge/state"
)

func filled(b byte) []byte { return bytes.Repeat([]byte{b}, api.Digest) }

func following(chain string) api.Client {
	return api.Client{Chain: chain, Trust: 20, Known: []api.Known{
		{Height: 3, Time: 3, Root: filled(1), Next: filled(2)},
		{Height: 6, Time: 6, Root: filled(3), Next: filled(4)},
	}}
}

// sample is a state with some of everything. Its connection 2 can be used; over it channel 1 can be acknowledged, 4 confirmed, 3 closed.
func sample() api.State {
	return api.State{
		Name: "a", Height: 4, Time: 9,
		Clients: []api.Client{following("c"), following("b"), following("d")},
		Conns: []api.Conn{
			{State: api.CoOpen, Client: 0, OtherClient: 5, OtherConn: 6},
			{State: api.CoTry, Client: 1, OtherClient: 2, OtherConn: 4},
			{State: api.CoOpen, Client: 1, OtherClient: 13, OtherConn: 11},
			{State: api.CoInit, Client: 1, OtherClient: 2, OtherConn: -1},
			{State: api.CoOpen, Client: 1, OtherClient: 2, OtherConn: -1},
		},
		Chans: []api.Chan{
			{State: api.ChOpen, Ordered: true, Conn: 0, OtherChan: 4, Send: 9, Recv: 300, Ack: 2},
			{State: api.ChInit, Ordered: true, Conn: 2, OtherChan: -1, Send: 14, Recv: 15, Ack: 16},
			{State: api.ChClosed, Conn: 2, OtherChan: 7, Send: 17, Recv: 18, Ack: 19},
			{State: api.ChOpen, Conn: 2, OtherChan: 6, Send: 20, Recv: 21, Ack: 22},
			{State: api.ChTry, Ordered: true, Conn: 2, OtherChan: 5, Send: 23, Recv: 24, Ack: 25},
		},
		Sent:   []api.Mark{{Chan: 0, Seq: 2, Digest: filled(5)}, {Chan: 0, Seq: 10, Digest: filled(6)}},
		Got:    []api.Mark{{Chan: 1, Seq: 7, Digest: filled(7)}},
		Acks:   []api.Mark{{Chan: 1, Seq: 7, Digest: filled(8)}, {Chan: 1, Seq: 8, Digest: filled(8)}},
		Purses: []api.Purse{{Owner: "ann", Denom: "gold", Amount: 5}, {Owner: "bob", Denom: "gold", Amount: math.MaxUint64}},
	}
}

// scene is one of the six calls, and what stands on the other chain at height 6, as client 1 knows it.
type scene struct {
	name     string
	own      api.State
	theirs   map[int]api.Chan
	i, other int
	ordered  bool
	height   int
	key      string // of what is shown
}

// faces are the calls by their names; each takes of a scene what it asks for.
var faces = []string{"Init", "Try", "Ack", "Confirm", "Close", "Closed"}

// proving are those that must be shown something.
var proving = []string{"Try", "Ack", "Confirm", "Closed"}

// good is a scene without errors; all numbers that must not be taken for each other are unlike.
func good(name string) scene {
	x := scene{
		name: name, own: sample(), height: 6,
		theirs: map[int]api.Chan{
			0: {State: api.ChOpen, Conn: 9, OtherChan: 10},
			5: {State: api.ChOpen, Ordered: true, Conn: 11, OtherChan: 4},
			6: {State: api.ChClosed, Conn: 11, OtherChan: 3},
			8: {State: api.ChTry, Ordered: true, Conn: 11, OtherChan: 1},
			9: {State: api.ChInit, Ordered: true, Conn: 11, OtherChan: -1},
		},
	}
	switch name {
	case "Init":
		x.i, x.ordered = 2, true
	case "Try":
		x.i, x.ordered, x.other = 2, true, 9
	case "Ack":
		x.i, x.other = 1, 8
	case "Confirm":
		x.i = 4
	case "Close", "Closed":
		x.i = 3
	}
	if at, shows := otherEnd(name); shows {
		x.key = keyText(at)
	}
	return x
}

// otherEnd is which of the other chain's channels a good scene shows.
func otherEnd(name string) (int, bool) {
	at, shows := map[string]int{"Try": 9, "Ack": 8, "Confirm": 5, "Closed": 6}[name]
	return at, shows
}

// goesOn answers whether the call is about a channel that there is.
func goesOn(name string) bool { return name != "Init" && name != "Try" }

// call is a scene with its proof: what the face is handed.
type call struct {
	name     string
	s        api.State
	i, other int
	ordered  bool
	p        api.Shown
}

// ready lets client 1 know the other chain, and shows it what is to be shown.
func (x scene) ready() call {
	var doings []api.Doing
	for n, c := range x.theirs {
		doings = append(doings, api.Doing{Key: []byte(keyText(n)), Val: []byte(chanText(c))})
	}
	pairs, _ := book.Play(doings)
	root, _ := book.Root(pairs)
	if len(x.own.Clients) > 1 && len(x.own.Clients[1].Known) > 1 {
		x.own.Clients[1].Known[1].Root = root
	}
	p, _ := proof.Show(pairs, []byte(x.key))
	return call{x.name, x.own, x.i, x.other, x.ordered, api.Shown{Height: x.height, Proof: p}}
}

func (x call) do() (s api.State, n int, err api.Errno) {
	switch x.name {
	case "Init":
		s, n, err = Init(x.s, x.i, x.ordered)
	case "Try":
		s, n, err = Try(x.s, x.i, x.ordered, x.other, x.p)
	case "Ack":
		s, err = Ack(x.s, x.i, x.other, x.p)
	case "Confirm":
		s, err = Confirm(x.s, x.i, x.p)
	case "Close":
		s, err = Close(x.s, x.i)
	case "Closed":
		s, err = Closed(x.s, x.i, x.p)
	}
	return s, n, err
}

// told is an error with whether it fits, in the order in which the chapter names them.
type told struct {
	err api.Errno
	is  bool
}

func keyText(n int) string { return fmt.Sprintf("chan/%d", n) }

// chanText is what Write makes of a channel, by the library's numbers of the same form.
func chanText(c api.Chan) string {
	out := []byte{4}
	for _, n := range []int{c.State, map[bool]int{true: 1}[c.Ordered], c.Conn, c.OtherChan + 1} {
		out = binary.AppendUvarint(append(out, 0), uint64(n))
	}
	return string(out)
}

func entry[T any](l []T, i int) (out T, there bool) {
	if i < 0 || i >= len(l) {
		return out, false
	}
	return l[i], true
}

func outside(n int) bool { return n < 0 || n > 1e12 }

// step is how a channel must stand, how its other end must, and how it stands then; 0: it isn't asked.
type step struct{ from, shown, to int }

var steps = map[string]step{"Init": {0, 0, 1}, "Try": {0, 1, 2}, "Ack": {1, 2, 3}, "Confirm": {2, 3, 3}, "Close": {3, 0, 4}, "Closed": {3, 4, 4}}

// reference writes down all that might be wrong, and takes the first that is; what comes of the call it tells by a copy.
func (x call) reference() (api.State, int, api.Errno) {
	if err := state.Wrong(x.s); err != api.OK {
		return api.State{}, 0, err
	}
	by := steps[x.name]
	own, there := entry(x.s.Chans, x.i)
	back, takesOther := x.i, x.name == "Try" || x.name == "Ack"
	if by.from == 0 {
		own, there, back = api.Chan{Ordered: x.ordered, Conn: x.i, OtherChan: -1, Send: 1, Recv: 1, Ack: 1}, true, -1
	}
	over, linked := entry(x.s.Conns, own.Conn)
	follower, known := entry(x.s.Clients, over.Client)
	held := own.OtherChan
	if takesOther {
		own.OtherChan = x.other
	}
	all := []told{
		{api.ErrNone, !there},
		{api.ErrState, own.State != by.from},
		{api.ErrNone, !linked},
		{api.ErrState, over.State != 3},
		{api.ErrFit, over.OtherConn == -1},
		{api.ErrNone, !known},
		{api.ErrState, follower.Frozen || known && x.s.Time >= follower.Trust+follower.Known[len(follower.Known)-1].Time},
		{api.ErrFit, (x.name == "Confirm" || x.name == "Closed") && held == -1},
		{api.ErrRange, takesOther && outside(x.other)},
	}
	if by.shown != 0 {
		val := chanText(api.Chan{State: by.shown, Ordered: own.Ordered, Conn: over.OtherConn, OtherChan: back})
		at, is := entry(follower.Known, slices.IndexFunc(follower.Known, func(k api.Known) bool { return k.Height == x.p.Height }))
		shown := is && proof.Shown(at.Root, x.p.Proof) && string(x.p.Proof.Key) == keyText(own.OtherChan) && string(x.p.Proof.Val) == val
		all = append(all, told{api.ErrNone, !is}, told{api.ErrProof, !shown})
	}
	all = append(all, told{api.ErrMany, by.from == 0 && len(x.s.Chans) >= 8})
	for _, one := range all {
		if one.is {
			return api.State{}, 0, one.err
		}
	}
	s, number := x.s, 0
	own.State = by.to
	s.Chans = slices.Clone(s.Chans)
	if by.from == 0 {
		s.Chans, number = append(s.Chans, own), len(s.Chans)
	} else {
		s.Chans[x.i] = own
	}
	return s, number, api.OK
}

// tell is the same of nil and of a list without entries.
func tell(s api.State) string { return fmt.Sprintf("%+v", s) }

// check holds a call against the reference, and both against the error that must come.
func check(t *testing.T, note string, x call, want api.Errno) {
	t.Helper()
	s, n, err := checkCall(t, note, x)
	if err != want {
		t.Errorf("%s, %s: %d comes, not %d", x.name, note, err, want)
	}
	if want != api.OK && (tell(s) != tell(api.State{}) || n != 0) {
		t.Errorf("%s, %s: beside an error %v and %d come", x.name, note, s, n)
	}
}

// checkCall is for where the reference alone knows what must come.
func checkCall(t *testing.T, note string, x call) (api.State, int, api.Errno) {
	t.Helper()
	s, n, err := x.do()
	want, wantN, wantErr := x.reference()
	if err != wantErr || n != wantN || tell(s) != tell(want) {
		t.Errorf("%s, %s: %v, %d and %d come, not %v, %d and %d", x.name, note, s, n, err, want, wantN, wantErr)
	}
	return s, n, err
}

// changed is a good scene with one change.
func changed(name string, change func(x *scene)) call {
	x := good(name)
	change(&x)
	return x.ready()
}
