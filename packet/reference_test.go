package packet

import (
	"bytes"
	"cmp"
	"crypto/sha256"
	"encoding/binary"
	"fmt"
	"math"
	"slices"
	"testing"

	"landbridge/api"
	"landbridge/book"
	"landbridge/proof"
	"landbridge/state"
)

func filled(b byte) []byte { return bytes.Repeat([]byte{b}, api.Digest) }

func following(chain string) api.Client {
	return api.Client{Chain: chain, Trust: 20, Known: []api.Known{
		{Height: 3, Time: 3, Root: filled(1), Next: filled(2)},
		{Height: 6, Time: 6, Root: filled(3), Next: filled(4)},
	}}
}

// sample is a state with some of everything. Its connection 2 can be used; over it channel 1 is open, and so is 2, which is ordered.
func sample() api.State {
	return api.State{
		Name: "a", Height: 4, Time: 9,
		Clients: []api.Client{following("c"), following("b"), following("d")},
		Conns: []api.Conn{
			{State: api.CoOpen, Client: 0, OtherClient: 5, OtherConn: 6},
			{State: api.CoTry, Client: 1, OtherClient: 2, OtherConn: 4},
			{State: api.CoOpen, Client: 1, OtherClient: 13, OtherConn: 11},
			{State: api.CoInit, Client: 1, OtherClient: 2, OtherConn: -1},
			{State: api.CoOpen, Client: 1, OtherClient: 2, OtherConn: -1},
		},
		Chans: []api.Chan{
			{State: api.ChOpen, Ordered: true, Conn: 0, OtherChan: 4, Send: 9, Recv: 300, Ack: 2},
			{State: api.ChOpen, Conn: 2, OtherChan: 6, Send: 14, Recv: 15, Ack: 16},
			{State: api.ChOpen, Ordered: true, Conn: 2, OtherChan: 7, Send: 27, Recv: 28, Ack: 19},
			{State: api.ChInit, Ordered: true, Conn: 2, OtherChan: -1, Send: 20, Recv: 21, Ack: 22},
			{State: api.ChTry, Conn: 2, OtherChan: 5, Send: 23, Recv: 24, Ack: 25},
		},
		Sent:   []api.Mark{{Chan: 0, Seq: 40, Digest: filled(5)}, {Chan: 1, Seq: 2, Digest: filled(6)}, {Chan: 1, Seq: 13, Digest: filled(7)}, {Chan: 2, Seq: 26, Digest: filled(8)}},
		Got:    []api.Mark{{Chan: 0, Seq: 12, Digest: filled(9)}, {Chan: 1, Seq: 11, Digest: filled(10)}, {Chan: 1, Seq: 13, Digest: filled(11)}, {Chan: 2, Seq: 28, Digest: filled(12)}},
		Acks:   []api.Mark{{Chan: 1, Seq: 11, Digest: filled(13)}, {Chan: 1, Seq: 13, Digest: filled(14)}, {Chan: 2, Seq: 27, Digest: filled(15)}},
		Purses: []api.Purse{{Owner: "ann", Denom: "gold", Amount: 5}, {Owner: "bob", Denom: "gold", Amount: math.MaxUint64}},
	}
}

// scene is one of the four calls, and what stands on the other chain at height 6, as client 1 knows it.
type scene struct {
	name    string
	own     api.State
	theirs  map[string]string
	i       int
	data    []byte
	timeout int
	p       api.Packet
	ack     []byte
	next    int
	height  int
	key     string // of what is shown
}

// faces are the calls by their names, those over an ordered channel with a star; each takes of a scene what it asks for.
var faces = []string{"Send", "Send*", "Recv", "Recv*", "Ack", "Ack*", "Timeout", "Timeout*"}

// carrying are those that are about a packet, and must be shown something of it.
var carrying = faces[2:]

func face(name string) string { return string(bytes.TrimSuffix([]byte(name), []byte("*"))) }

func ordered(name string) bool { return name[len(name)-1] == '*' }

// settles answers whether the call is about a packet that was sent here.
func settles(name string) bool { return face(name) == "Ack" || face(name) == "Timeout" }

// good is a scene without errors; numbers that must not be taken for each other are unlike.
func good(name string) scene {
	x := scene{
		name: name, own: sample(), height: 6, i: 1, data: []byte("data"), timeout: 7, ack: []byte("done"), next: 18,
		theirs: map[string]string{"conn/0": "c", "got/6/11": "g", "got/6/13": "h", "ack/6/11": "a", "next/6": numberText(12), "sent/6/11": "s"},
	}
	x.p = api.Packet{From: 1, To: 6, Seq: 12, Data: []byte("hello"), Timeout: 5}
	if ordered(name) {
		x.i = 2
		x.p = api.Packet{From: 2, To: 7, Seq: 19, Data: []byte("hello"), Timeout: 5}
	}
	switch name {
	case "Recv":
		x.p.From, x.p.To = 6, 1
	case "Recv*":
		x.p.From, x.p.To, x.p.Seq = 7, 2, 28
	case "Timeout", "Timeout*":
		x.p.Timeout = 4
	}
	x.lay()
	return x
}

// lay makes both chains have of the packet what the call needs.
func (x *scene) lay() {
	digest := digestOf(x.p)
	if settles(x.name) {
		x.own.Sent = put(x.own.Sent, x.p.From, x.p.Seq, digest)
	}
	switch face(x.name) {
	case "Recv":
		x.key = fmt.Sprintf("sent/%d/%d", x.p.From, x.p.Seq)
		x.theirs[x.key] = string(digest)
	case "Ack":
		x.key = fmt.Sprintf("ack/%d/%d", x.p.To, x.p.Seq)
		x.theirs[x.key] = string(sumOf(x.ack))
	case "Timeout":
		x.key = fmt.Sprintf("got/%d/%d", x.p.To, x.p.Seq)
		if ordered(x.name) {
			x.key = fmt.Sprintf("next/%d", x.p.To)
			x.theirs[x.key] = numberText(x.next)
		}
	}
}

// repack changes the packet, or what goes with it, and with it what both chains have of it.
func (x *scene) repack(change func(x *scene)) {
	delete(x.theirs, x.key)
	if settles(x.name) {
		x.own.Sent = take(x.own.Sent, x.p.From, x.p.Seq)
	}
	change(x)
	x.lay()
}

// end is the channel that the call is about.
func (x *scene) end() *api.Chan {
	i := x.i
	switch {
	case face(x.name) == "Recv":
		i = x.p.To
	case settles(x.name):
		i = x.p.From
	}
	return &x.own.Chans[i]
}

// call is a scene with its proof: what the face is handed.
type call struct {
	name    string
	s       api.State
	i       int
	data    []byte
	timeout int
	p       api.Packet
	ack     []byte
	next    int
	w       api.Shown
}

// ready lets client 1 know the other chain, and shows it what is to be shown: that it stands there, or that it does not.
func (x scene) ready() call {
	var doings []api.Doing
	for key, val := range x.theirs {
		doings = append(doings, api.Doing{Key: []byte(key), Val: []byte(val)})
	}
	pairs, _ := book.Play(doings)
	root, _ := book.Root(pairs)
	if len(x.own.Clients) > 1 && len(x.own.Clients[1].Known) > 1 {
		x.own.Clients[1].Known[1].Root = root
	}
	return call{x.name, x.own, x.i, x.data, x.timeout, x.p, x.ack, x.next, shownOf(pairs, x.height, x.key)}
}

// shownOf leaves empty what there is no proof of.
func shownOf(pairs []api.Pair, height int, key string) api.Shown {
	p, _ := proof.Show(pairs, []byte(key))
	g, _ := proof.ShowGap(pairs, []byte(key))
	return api.Shown{Height: height, Proof: p, Gap: g}
}

func (x call) do() (s api.State, p api.Packet, err api.Errno) {
	switch face(x.name) {
	case "Send":
		s, p, err = Send(x.s, x.i, x.data, x.timeout)
	case "Recv":
		s, err = Recv(x.s, x.p, x.ack, x.w)
	case "Ack":
		s, err = Ack(x.s, x.p, x.ack, x.w)
	case "Timeout":
		s, err = Timeout(x.s, x.p, x.next, x.w)
	}
	return s, p, err
}

func sumOf(b []byte) []byte {
	sum := sha256.Sum256(b)
	return sum[:]
}

// numberText is what Write makes of a number alone, by the library's numbers of the same form.
func numberText(n int) string { return string(binary.AppendUvarint([]byte{1, 0}, uint64(n))) }

func digestOf(p api.Packet) []byte {
	b := []byte{5}
	for _, n := range []int{p.From, p.To, p.Seq} {
		b = binary.AppendUvarint(append(b, 0), uint64(n))
	}
	b = append(binary.AppendUvarint(append(b, 1), uint64(len(p.Data))), p.Data...)
	return sumOf(binary.AppendUvarint(append(b, 0), uint64(p.Timeout)))
}

// put and take go by a map, and sort what comes of it.
func put(l []api.Mark, ch, seq int, digest []byte) []api.Mark {
	m := marked(l)
	m[[2]int{ch, seq}] = digest
	return listed(m)
}

func take(l []api.Mark, ch, seq int) []api.Mark {
	m := marked(l)
	delete(m, [2]int{ch, seq})
	return listed(m)
}

func marked(l []api.Mark) map[[2]int][]byte {
	m := map[[2]int][]byte{}
	for _, x := range l {
		m[[2]int{x.Chan, x.Seq}] = x.Digest
	}
	return m
}

func listed(m map[[2]int][]byte) []api.Mark {
	var out []api.Mark
	for at, digest := range m {
		out = append(out, api.Mark{Chan: at[0], Seq: at[1], Digest: digest})
	}
	slices.SortFunc(out, func(a, b api.Mark) int { return cmp.Or(a.Chan-b.Chan, a.Seq-b.Seq) })
	return out
}

func entry[T any](l []T, i int) (out T, there bool) {
	if i < 0 || i >= len(l) {
		return out, false
	}
	return l[i], true
}

func outside(low int, l ...int) bool { return slices.Min(l) < low || slices.Max(l) > 1e12 }

// told is an error with whether it fits, in the order in which the chapter names them.
type told struct {
	err api.Errno
	is  bool
}

func toldOfPacket(p api.Packet) []told {
	return []told{{api.ErrRange, outside(0, p.From, p.To) || outside(1, p.Seq, p.Timeout)}, {api.ErrMuch, len(p.Data) > 150}}
}

// toldOfEnd is for channel i; it answers this one, too, and its client, as far as there are such.
func toldOfEnd(s api.State, i int, stands ...int) ([]told, api.Chan, api.Client) {
	wrong := state.Wrong(s)
	own, there := entry(s.Chans, i)
	over, linked := entry(s.Conns, own.Conn)
	follower, known := entry(s.Clients, over.Client)
	last, _ := entry(follower.Known, len(follower.Known)-1)
	return []told{
		{wrong, wrong != api.OK},
		{api.ErrNone, !there},
		{api.ErrState, !slices.Contains(stands, own.State)},
		{api.ErrNone, !linked},
		{api.ErrState, over.State != 3},
		{api.ErrFit, over.OtherConn == -1},
		{api.ErrNone, !known},
		{api.ErrState, follower.Frozen || s.Time >= follower.Trust+last.Time},
	}, own, follower
}

// toldOfShown is for that val stands under key; without val for that nothing does.
func toldOfShown(follower api.Client, w api.Shown, key, val string) []told {
	at, is := entry(follower.Known, slices.IndexFunc(follower.Known, func(k api.Known) bool { return k.Height == w.Height }))
	shown := proof.Shown(at.Root, w.Proof) && string(w.Proof.Key) == key && string(w.Proof.Val) == val
	if val == "" {
		shown = proof.Absent(at.Root, []byte(key), w.Gap)
	}
	return []told{{api.ErrNone, !is}, {api.ErrProof, !shown}}
}

// reference writes down all that might be wrong, and takes the first that is; what comes of the call it tells by a copy.
func (x call) reference() (api.State, api.Packet, api.Errno) {
	by := map[string]func(x call) ([]told, api.State, api.Packet){
		"Send": call.referenceSend, "Recv": call.referenceRecv, "Ack": call.referenceAck, "Timeout": call.referenceTimeout,
	}
	all, s, p := by[face(x.name)](x)
	for _, one := range all {
		if one.is {
			return api.State{}, api.Packet{}, one.err
		}
	}
	return s, p, api.OK
}

// rechanneled is s with another channel i, if there is one.
func rechanneled(s api.State, i int, change func(c *api.Chan)) api.State {
	s.Chans = slices.Clone(s.Chans)
	if i >= 0 && i < len(s.Chans) {
		change(&s.Chans[i])
	}
	return s
}

func (x call) referenceSend() ([]told, api.State, api.Packet) {
	all, own, follower := toldOfEnd(x.s, x.i, 3)
	p := api.Packet{From: x.i, To: own.OtherChan, Seq: own.Send, Data: x.data, Timeout: x.timeout}
	last, _ := entry(follower.Known, len(follower.Known)-1)
	all = slices.Concat(all, toldOfPacket(p), []told{
		{api.ErrTime, last.Height >= x.timeout},
		{api.ErrMany, len(x.s.Sent) == 50},
		{api.ErrMany, own.Send == 1e12},
	})
	s := rechanneled(x.s, x.i, func(c *api.Chan) { c.Send++ })
	s.Sent = put(s.Sent, p.From, p.Seq, digestOf(p))
	return all, s, p
}

func (x call) referenceRecv() ([]told, api.State, api.Packet) {
	ofEnd, own, follower := toldOfEnd(x.s, x.p.To, 3)
	_, had := marked(x.s.Got)[[2]int{x.p.To, x.p.Seq}]
	all := slices.Concat(toldOfPacket(x.p), ofEnd, []told{
		{api.ErrFit, own.OtherChan != x.p.From},
		{api.ErrTime, x.s.Height >= x.p.Timeout},
		{api.ErrState, own.Ordered && x.p.Seq != own.Recv},
		{api.ErrState, !own.Ordered && had},
		{api.ErrMany, len(x.s.Got) == 50},
		{api.ErrMany, len(x.s.Acks) == 50},
		{api.ErrMany, len(x.ack) > 150},
		{api.ErrMany, own.Recv == 1e12},
	}, toldOfShown(follower, x.w, fmt.Sprintf("sent/%d/%d", x.p.From, x.p.Seq), string(digestOf(x.p))))
	s := x.s
	if own.Ordered {
		s = rechanneled(s, x.p.To, func(c *api.Chan) { c.Recv++ })
	} else {
		s.Got = put(s.Got, x.p.To, x.p.Seq, digestOf(x.p))
	}
	s.Acks = put(s.Acks, x.p.To, x.p.Seq, sumOf(x.ack))
	return all, s, api.Packet{}
}

// toldOfSender is what Ack and Timeout tell first.
func toldOfSender(s api.State, p api.Packet) ([]told, api.Chan, api.Client) {
	ofEnd, own, follower := toldOfEnd(s, p.From, 3, 4)
	digest, there := marked(s.Sent)[[2]int{p.From, p.Seq}]
	return slices.Concat(toldOfPacket(p), ofEnd, []told{
		{api.ErrFit, own.OtherChan != p.To},
		{api.ErrNone, !there},
		{api.ErrFit, string(digest) != string(digestOf(p))},
	}), own, follower
}

func (x call) referenceAck() ([]told, api.State, api.Packet) {
	all, own, follower := toldOfSender(x.s, x.p)
	all = slices.Concat(all, []told{
		{api.ErrMuch, len(x.ack) > 150},
		{api.ErrState, own.Ordered && x.p.Seq != own.Ack},
		{api.ErrMany, own.Ordered && own.Ack == 1e12},
	}, toldOfShown(follower, x.w, fmt.Sprintf("ack/%d/%d", x.p.To, x.p.Seq), string(sumOf(x.ack))))
	s := x.s
	if own.Ordered {
		s = rechanneled(s, x.p.From, func(c *api.Chan) { c.Ack++ })
	}
	s.Sent = take(s.Sent, x.p.From, x.p.Seq)
	return all, s, api.Packet{}
}

func (x call) referenceTimeout() ([]told, api.State, api.Packet) {
	all, own, follower := toldOfSender(x.s, x.p)
	all = append(all, told{api.ErrTime, x.w.Height < x.p.Timeout})
	s := x.s
	if own.Ordered {
		all = append(all, told{api.ErrState, x.next < 1 || x.next > x.p.Seq})
		all = append(all, toldOfShown(follower, x.w, fmt.Sprintf("next/%d", x.p.To), numberText(x.next))...)
		s = rechanneled(s, x.p.From, func(c *api.Chan) { c.State = 4 })
	} else {
		all = append(all, toldOfShown(follower, x.w, fmt.Sprintf("got/%d/%d", x.p.To, x.p.Seq), "")...)
	}
	s.Sent = take(s.Sent, x.p.From, x.p.Seq)
	return all, s, api.Packet{}
}

// tell is the same of nil and of a list without entries.
func tell(l ...any) string { return fmt.Sprintf("%+v", l) }

// check holds a call against the reference, and both against the error that must come.
func check(t *testing.T, note string, x call, want api.Errno) {
	t.Helper()
	s, p, err := checkCall(t, note, x)
	if err != want {
		t.Errorf("%s, %s: %d comes, not %d", x.name, note, err, want)
	}
	if want != api.OK && tell(s, p) != tell(api.State{}, api.Packet{}) {
		t.Errorf("%s, %s: beside an error %v and %v come", x.name, note, s, p)
	}
	if want == api.OK && state.Wrong(s) != api.OK {
		t.Errorf("%s, %s: the state is wrong: %d", x.name, note, state.Wrong(s))
	}
}

// checkCall is for where the reference alone knows what must come.
func checkCall(t *testing.T, note string, x call) (api.State, api.Packet, api.Errno) {
	t.Helper()
	s, p, err := x.do()
	want, wantP, wantErr := x.reference()
	if err != wantErr || tell(s, p) != tell(want, wantP) {
		t.Errorf("%s, %s: %v, %v and %d come, not %v, %v and %d", x.name, note, s, p, err, want, wantP, wantErr)
	}
	return s, p, err
}

// changed is a good scene with one change.
func changed(name string, change func(x *scene)) call {
	x := good(name)
	change(&x)
	return x.ready()
}

// repacked is a good scene with another packet, or another answer to it, that both chains have.
func repacked(name string, change func(x *scene)) call {
	return changed(name, func(x *scene) { x.repack(change) })
}
