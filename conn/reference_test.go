package conn

import (
	"bytes"
	"encoding/binary"
	"fmt"
	"math"
	"slices"
	"testing"

	"landbridge/api"
	"landbridge/book"
	"landbridge/proof"
	"landbridge/state"
)

func filled(b byte) []byte { return bytes.Repeat([]byte{b}, api.Digest) }

func following(chain string) api.Client {
	return api.Client{Chain: chain, Trust: 20, Known: []api.Known{
		{Height: 3, Time: 3, Root: filled(1), Next: filled(2)},
		{Height: 6, Time: 6, Root: filled(3), Next: filled(4)},
	}}
}

// sample is a state with some of everything. Of its connections number 3 can be acknowledged, and number 1 confirmed.
func sample() api.State {
	return api.State{
		Name: "a", Height: 4, Time: 9,
		Clients: []api.Client{following("c"), following("b"), following("d")},
		Conns: []api.Conn{
			{State: api.CoOpen, Client: 0, OtherClient: 5, OtherConn: 6},
			{State: api.CoTry, Client: 1, OtherClient: 2, OtherConn: 4},
			{State: api.CoTry, Client: 2, OtherClient: 7, OtherConn: -1},
			{State: api.CoInit, Client: 1, OtherClient: 2, OtherConn: -1},
		},
		Chans: []api.Chan{
			{State: api.ChOpen, Ordered: true, Conn: 0, OtherChan: 4, Send: 9, Recv: 300, Ack: 2},
			{State: api.ChInit, Conn: 0, OtherChan: -1, Send: 1, Recv: 1, Ack: 1},
		},
		Sent:   []api.Mark{{Chan: 0, Seq: 2, Digest: filled(5)}, {Chan: 0, Seq: 10, Digest: filled(6)}},
		Got:    []api.Mark{{Chan: 1, Seq: 7, Digest: filled(7)}},
		Acks:   []api.Mark{{Chan: 1, Seq: 7, Digest: filled(8)}, {Chan: 1, Seq: 8, Digest: filled(8)}},
		Purses: []api.Purse{{Owner: "ann", Denom: "gold", Amount: 5}, {Owner: "bob", Denom: "gold", Amount: math.MaxUint64}},
	}
}

// scene is one of the four calls, and what stands on the other chain at height 6, as client 1 knows it.
type scene struct {
	name                   string
	own                    api.State
	theirs                 map[int]api.Conn
	c, other, i, otherConn int
	height                 int
	key                    string // of what is shown
}

// faces are the calls by their names; each takes of a scene what it asks for.
var faces = []string{"Init", "Try", "Ack", "Confirm"}

// good is a scene without errors; all numbers that must not be taken for each other are unlike.
func good(name string) scene {
	x := scene{
		name: name, own: sample(), height: 6, c: 1, other: 2,
		theirs: map[int]api.Conn{
			0: {State: api.CoOpen, Client: 9, OtherClient: 8, OtherConn: 7},
			4: {State: api.CoOpen, Client: 2, OtherClient: 1, OtherConn: 1},
			5: {State: api.CoTry, Client: 2, OtherClient: 1, OtherConn: 3},
			6: {State: api.CoInit, Client: 2, OtherClient: 1, OtherConn: -1},
		},
	}
	switch name {
	case "Try":
		x.otherConn, x.key = 6, "conn/6"
	case "Ack":
		x.i, x.otherConn, x.key = 3, 5, "conn/5"
	case "Confirm":
		x.i, x.key = 1, "conn/4"
	}
	return x
}

// call is a scene with its proof: what the face is handed.
type call struct {
	name                   string
	s                      api.State
	c, other, i, otherConn int
	p                      api.Shown
}

// ready lets client 1 know the other chain, and shows it what is to be shown.
func (x scene) ready() call {
	var doings []api.Doing
	for n, c := range x.theirs {
		doings = append(doings, api.Doing{Key: []byte(keyText(n)), Val: []byte(connText(c))})
	}
	pairs, _ := book.Play(doings)
	root, _ := book.Root(pairs)
	if len(x.own.Clients) > 1 && len(x.own.Clients[1].Known) > 1 {
		x.own.Clients[1].Known[1].Root = root
	}
	p, _ := proof.Show(pairs, []byte(x.key))
	return call{x.name, x.own, x.c, x.other, x.i, x.otherConn, api.Shown{Height: x.height, Proof: p}}
}

func (x call) do() (s api.State, n int, err api.Errno) {
	switch x.name {
	case "Init":
		s, n, err = Init(x.s, x.c, x.other)
	case "Try":
		s, n, err = Try(x.s, x.c, x.other, x.otherConn, x.p)
	case "Ack":
		s, err = Ack(x.s, x.i, x.otherConn, x.p)
	case "Confirm":
		s, err = Confirm(x.s, x.i, x.p)
	}
	return s, n, err
}

// told is an error with whether it fits, in the order in which the chapter names them.
type told struct {
	err api.Errno
	is  bool
}

func keyText(n int) string { return fmt.Sprintf("conn/%d", n) }

// connText is what Write makes of a connection, by the library's numbers of the same form.
func connText(c api.Conn) string {
	out := []byte{4}
	for _, n := range []int{c.State, c.Client, c.OtherClient, c.OtherConn + 1} {
		out = binary.AppendUvarint(append(out, 0), uint64(n))
	}
	return string(out)
}

func entry[T any](l []T, i int) (out T, there bool) {
	if i < 0 || i >= len(l) {
		return out, false
	}
	return l[i], true
}

func outside(n int) bool { return n < 0 || n > 1e12 }

// reference writes down all that might be wrong, and takes the first that is; what comes of the call it tells by a copy.
func (x call) reference() (api.State, int, api.Errno) {
	if err := state.Wrong(x.s); err != api.OK {
		return api.State{}, 0, err
	}
	begins := x.name == "Init" || x.name == "Try"
	own, there := entry(x.s.Conns, x.i)
	from := map[string]int{"Ack": 1, "Confirm": 2}[x.name]
	if begins {
		own = api.Conn{Client: x.c, OtherClient: x.other}
	}
	follower, known := entry(x.s.Clients, own.Client)
	otherConn := x.otherConn
	if x.name == "Confirm" {
		otherConn = own.OtherConn
	}
	all := []told{
		{api.ErrNone, !begins && !there},
		{api.ErrState, !begins && own.State != from},
		{api.ErrNone, !known},
		{api.ErrState, follower.Frozen || known && x.s.Time >= follower.Trust+follower.Known[len(follower.Known)-1].Time},
		{api.ErrFit, x.name == "Confirm" && otherConn == -1},
		{api.ErrRange, begins && outside(x.other)},
		{api.ErrRange, x.name != "Init" && outside(otherConn)},
	}
	if x.name != "Init" {
		back := map[string]int{"Try": -1, "Ack": x.i, "Confirm": x.i}[x.name]
		stands := map[string]int{"Try": 1, "Ack": 2, "Confirm": 3}[x.name]
		val := connText(api.Conn{State: stands, Client: own.OtherClient, OtherClient: own.Client, OtherConn: back})
		at, is := entry(follower.Known, slices.IndexFunc(follower.Known, func(k api.Known) bool { return k.Height == x.p.Height }))
		shown := is && proof.Shown(at.Root, x.p.Proof) && string(x.p.Proof.Key) == keyText(otherConn) && string(x.p.Proof.Val) == val
		all = append(all, told{api.ErrNone, !is}, told{api.ErrProof, !shown})
	}
	all = append(all, told{api.ErrMany, begins && len(x.s.Conns) >= 8})
	for _, one := range all {
		if one.is {
			return api.State{}, 0, one.err
		}
	}
	s := x.s
	s.Conns = slices.Clone(s.Conns)
	switch x.name {
	case "Init":
		s.Conns = append(s.Conns, api.Conn{State: 1, Client: x.c, OtherClient: x.other, OtherConn: -1})
		return s, len(x.s.Conns), api.OK
	case "Try":
		s.Conns = append(s.Conns, api.Conn{State: 2, Client: x.c, OtherClient: x.other, OtherConn: x.otherConn})
		return s, len(x.s.Conns), api.OK
	}
	s.Conns[x.i] = api.Conn{State: 3, Client: own.Client, OtherClient: own.OtherClient, OtherConn: otherConn}
	return s, 0, api.OK
}

// tell is the same of nil and of a list without entries.
func tell(s api.State) string { return fmt.Sprintf("%+v", s) }

// check holds a call against the reference, and both against the error that must come.
func check(t *testing.T, note string, x call, want api.Errno) {
	t.Helper()
	s, n, err := checkCall(t, note, x)
	if err != want {
		t.Errorf("%s, %s: %d comes, not %d", x.name, note, err, want)
	}
	if want != api.OK && (tell(s) != tell(api.State{}) || n != 0) {
		t.Errorf("%s, %s: beside an error %v and %d come", x.name, note, s, n)
	}
}

// checkCall is for where the reference alone knows what must come.
func checkCall(t *testing.T, note string, x call) (api.State, int, api.Errno) {
	t.Helper()
	s, n, err := x.do()
	want, wantN, wantErr := x.reference()
	if err != wantErr || n != wantN || tell(s) != tell(want) {
		t.Errorf("%s, %s: %v, %d and %d come, not %v, %d and %d", x.name, note, s, n, err, want, wantN, wantErr)
	}
	return s, n, err
}

// changed is a good scene with one change.
func changed(name string, change func(x *scene)) call {
	x := good(name)
	change(&x)
	return x.ready()
}
