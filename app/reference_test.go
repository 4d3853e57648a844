package app

import (
	"bytes"
	"cmp"
	"crypto/sha256"
	"encoding/binary"
	"fmt"
	"slices"
	"strings"
	"testing"

	"landbridge/api"
	"landbridge/bank"
	"landbridge/book"
	"landbridge/chans"
	"landbridge/client"
	"landbridge/conn"
	"landbridge/header"
	"landbridge/packet"
	"landbridge/proof"
	"landbridge/seal"
	"landbridge/state"
)

func filled(b byte) []byte { return bytes.Repeat([]byte{b}, api.Digest) }

// The other chain has one validator.
func theirVals() []api.Val { return []api.Val{{Key: seal.Key([]byte("b")), Power: 1}} }

func following(chain string) api.Client {
	next := header.Digest(theirVals())
	return api.Client{Chain: chain, Trust: 20, Known: []api.Known{
		{Height: 3, Time: 3, Root: filled(1), Next: next},
		{Height: 6, Time: 6, Root: filled(3), Next: next},
	}}
}

// update tells of the other chain's block 7.
func update(root byte) api.Update {
	told := header.Digest(theirVals())
	h := api.Header{Chain: "b", Height: 7, Time: 8, Root: filled(root), Vals: told, Next: told}
	signed, _ := header.Sign(h, theirVals(), [][]byte{[]byte("b")})
	return api.Update{From: 6, Signed: signed}
}

// sample is a state with some of everything. Its connection 2 can be used; over it channel 1 is open, and so is 2, which is ordered.
func sample() api.State {
	return api.State{
		Name: "a", Height: 4, Time: 9,
		Clients: []api.Client{following("c"), following("b"), following("d")},
		Conns: []api.Conn{
			{State: api.CoOpen, Client: 0, OtherClient: 5, OtherConn: 6},
			{State: api.CoTry, Client: 1, OtherClient: 2, OtherConn: 4},
			{State: api.CoOpen, Client: 1, OtherClient: 13, OtherConn: 11},
			{State: api.CoInit, Client: 1, OtherClient: 2, OtherConn: -1},
		},
		Chans: []api.Chan{
			{State: api.ChOpen, Ordered: true, Conn: 0, OtherChan: 4, Send: 9, Recv: 300, Ack: 2},
			{State: api.ChOpen, Conn: 2, OtherChan: 6, Send: 14, Recv: 15, Ack: 16},
			{State: api.ChOpen, Ordered: true, Conn: 2, OtherChan: 7, Send: 27, Recv: 28, Ack: 19},
			{State: api.ChInit, Ordered: true, Conn: 2, OtherChan: -1, Send: 20, Recv: 21, Ack: 22},
			{State: api.ChTry, Conn: 2, OtherChan: 5, Send: 23, Recv: 24, Ack: 25},
		},
		Sent: []api.Mark{{Chan: 0, Seq: 40, Digest: filled(5)}, {Chan: 1, Seq: 2, Digest: filled(6)}, {Chan: 2, Seq: 26, Digest: filled(8)}},
		Got:  []api.Mark{{Chan: 0, Seq: 12, Digest: filled(9)}, {Chan: 1, Seq: 11, Digest: filled(10)}},
		Acks: []api.Mark{{Chan: 1, Seq: 11, Digest: filled(13)}, {Chan: 2, Seq: 27, Digest: filled(15)}},
		Purses: []api.Purse{
			{Owner: "#1", Denom: "gold", Amount: 7},
			{Owner: "#2", Denom: "gold", Amount: 6},
			{Owner: "#6", Denom: "gold", Amount: 50},
			{Owner: "ann", Denom: "1/tin", Amount: 5},
			{Owner: "ann", Denom: "6/tin", Amount: 8},
			{Owner: "ann", Denom: "gold", Amount: 10},
			{Owner: "bob", Denom: "gold", Amount: 1},
		},
	}
}

// scene is a message to the sample, and what stands on the other chain at height 6, as client 1 knows it.
type scene struct {
	name   string
	own    api.State
	m      api.Msg
	theirs map[string]string
	height int
	key    string // of what is shown
}

// names are those of good scenes: one or more of each kind; with a star packets go over the ordered channel, and Ack0 refuses.
var names = []string{
	"Client", "Follow", "Catch", "ConnInit", "ConnTry", "ConnAck", "ConnDone", "ChanInit", "ChanTry", "ChanAck", "ChanDone", "Close", "Closed",
	"Send", "Send*", "Recv", "Recv*", "Ack", "Ack*", "Ack0", "Ack0*", "Late", "Late*", "Give",
}

func ordered(name string) bool { return strings.HasSuffix(name, "*") }

func face(name string) string { return strings.TrimRight(name, "0*") }

// settles answers whether the message is about a packet that was sent here.
func settles(name string) bool { return face(name) == "Ack" || face(name) == "Late" }

// usual is what is sent and given: both ends have enough for it, their safes, too.
func usual() api.Transfer {
	return api.Transfer{Denom: "gold", Amount: 3, Sender: "ann", Reader: "bob"}
}

// good is a scene without errors; numbers that must not be taken for each other are unlike.
func good(name string) scene {
	x := scene{name: name, own: sample(), height: 6, theirs: map[string]string{"got/6/11": "g", "next/6": wireText(12), "sent/6/11": "s"}}
	switch face(name) {
	case "Client":
		x.m = api.Msg{Kind: api.MsgClient, Chain: "e", Trust: 30, Known: api.Known{Height: 2, Time: 3, Root: filled(1), Next: filled(2)}}
	case "Follow":
		x.m = api.Msg{Kind: api.MsgFollow, Client: 1, Update: update(1)}
	case "Catch":
		x.m = api.Msg{Kind: api.MsgCatch, Client: 1, Update: update(1), Second: update(2)}
	case "Give":
		x.m = api.Msg{Kind: api.MsgGive, Transfer: usual()}
	case "Send":
		x.m = api.Msg{Kind: api.MsgSend, End: 1, Transfer: usual(), Timeout: 7}
		if ordered(name) {
			x.m.End = 2
		}
	case "Recv", "Ack", "Late":
		x.goodPacket()
	default:
		x.goodEnd()
	}
	return x
}

// goodEnd is for connections and channels.
func (x *scene) goodEnd() {
	x.m = map[string]api.Msg{
		"ConnInit": {Kind: api.MsgConnInit, Client: 1, Other: 8},
		"ConnTry":  {Kind: api.MsgConnTry, Client: 1, Other: 8, OtherEnd: 3},
		"ConnAck":  {Kind: api.MsgConnAck, End: 3, OtherEnd: 5},
		"ConnDone": {Kind: api.MsgConnDone, End: 1},
		"ChanInit": {Kind: api.MsgChanInit, End: 2, Ordered: true},
		"ChanTry":  {Kind: api.MsgChanTry, End: 2, Ordered: true, OtherEnd: 9},
		"ChanAck":  {Kind: api.MsgChanAck, End: 3, OtherEnd: 10},
		"ChanDone": {Kind: api.MsgChanDone, End: 4},
		"Close":    {Kind: api.MsgClose, End: 1},
		"Closed":   {Kind: api.MsgClosed, End: 1},
	}[x.name]
	there := map[string]struct {
		key  string
		vals []uint64
	}{
		"ConnTry":  {"conn/3", []uint64{api.CoInit, 8, 1, 0}},
		"ConnAck":  {"conn/5", []uint64{api.CoTry, 2, 1, 4}},
		"ConnDone": {"conn/4", []uint64{api.CoOpen, 2, 1, 2}},
		"ChanTry":  {"chan/9", []uint64{api.ChInit, 1, 11, 0}},
		"ChanAck":  {"chan/10", []uint64{api.ChTry, 1, 11, 4}},
		"ChanDone": {"chan/5", []uint64{api.ChOpen, 0, 11, 5}},
		"Closed":   {"chan/6", []uint64{api.ChClosed, 0, 11, 2}},
	}[x.name]
	if there.key != "" {
		x.key = there.key
		x.theirs[x.key] = wireText(there.vals...)
	}
}

func (x *scene) goodPacket() {
	p := api.Packet{From: 1, To: 6, Seq: 12, Data: bank.Bytes(usual()), Timeout: 5}
	if ordered(x.name) {
		p = api.Packet{From: 2, To: 7, Seq: 19, Data: bank.Bytes(usual()), Timeout: 5}
	}
	switch x.name {
	case "Recv":
		p.From, p.To = p.To, p.From
	case "Recv*":
		p.From, p.To, p.Seq = p.To, p.From, 28
	case "Late", "Late*":
		p.Timeout = 4
	}
	x.m = api.Msg{Kind: map[string]int{"Recv": api.MsgRecv, "Ack": api.MsgAck, "Late": api.MsgLate}[face(x.name)], Packet: p}
	if face(x.name) == "Ack" {
		x.m.Ack = []byte("1")
	}
	if strings.Contains(x.name, "0") {
		x.m.Ack = []byte("0")
	}
	if x.name == "Late*" {
		x.m.Next = 18
	}
	x.lay()
}

// lay makes both chains have of the packet what the message needs.
func (x *scene) lay() {
	p := x.m.Packet
	if settles(x.name) {
		x.own.Sent = marked(x.own.Sent, p.From, p.Seq, packet.Digest(p))
	}
	switch face(x.name) {
	case "Recv":
		x.key = fmt.Sprintf("sent/%d/%d", p.From, p.Seq)
		x.theirs[x.key] = string(packet.Digest(p))
	case "Ack":
		x.key = fmt.Sprintf("ack/%d/%d", p.To, p.Seq)
		x.theirs[x.key] = string(sumOf(x.m.Ack))
	case "Late":
		x.key = fmt.Sprintf("got/%d/%d", p.To, p.Seq)
		if ordered(x.name) {
			x.key = fmt.Sprintf("next/%d", p.To)
			x.theirs[x.key] = wireText(uint64(x.m.Next))
		}
	}
}

// repack changes the packet, or its answer, and with it what both chains have of it.
func (x *scene) repack(change func(m *api.Msg)) {
	delete(x.theirs, x.key)
	if settles(x.name) {
		x.own.Sent = unmarked(x.own.Sent, x.m.Packet.From, x.m.Packet.Seq)
	}
	change(&x.m)
	x.lay()
}

// carry makes the message be about that transfer.
func (x *scene) carry(change func(t *api.Transfer)) {
	t := usual()
	change(&t)
	if face(x.name) == "Send" || face(x.name) == "Give" {
		x.m.Transfer = t
		return
	}
	x.repack(func(m *api.Msg) { m.Packet.Data = bank.Bytes(t) })
}

// call is a scene with its proof: what Do is handed.
type call struct {
	name string
	s    api.State
	m    api.Msg
}

// ready lets client 1 know the other chain, and shows it what is to be shown: that it stands there, or that it does not.
func (x scene) ready() call {
	var doings []api.Doing
	for key, val := range x.theirs {
		doings = append(doings, api.Doing{Key: []byte(key), Val: []byte(val)})
	}
	pairs, _ := book.Play(doings)
	root, _ := book.Root(pairs)
	if len(x.own.Clients) > 1 && len(x.own.Clients[1].Known) > 1 {
		x.own.Clients[1].Known[1].Root = root
	}
	if x.key != "" {
		x.m.Shown = shownOf(pairs, x.height, x.key)
	}
	return call{x.name, x.own, x.m}
}

// shownOf leaves empty what there is no proof of.
func shownOf(pairs []api.Pair, height int, key string) api.Shown {
	p, _ := proof.Show(pairs, []byte(key))
	g, _ := proof.ShowGap(pairs, []byte(key))
	return api.Shown{Height: height, Proof: p, Gap: g}
}

func sumOf(b []byte) []byte {
	sum := sha256.Sum256(b)
	return sum[:]
}

// wireText is what Write makes of numbers, by the library's numbers of the same form.
func wireText(l ...uint64) string {
	out := []byte{byte(len(l))}
	for _, n := range l {
		out = binary.AppendUvarint(append(out, 0), n)
	}
	return string(out)
}

// marked is l with that mark, and unmarked without it, sorted anew.
func marked(l []api.Mark, ch, seq int, digest []byte) []api.Mark {
	out := append(unmarked(l, ch, seq), api.Mark{Chan: ch, Seq: seq, Digest: digest})
	slices.SortFunc(out, func(a, b api.Mark) int { return cmp.Or(a.Chan-b.Chan, a.Seq-b.Seq) })
	return out
}

func unmarked(l []api.Mark, ch, seq int) []api.Mark {
	return slices.DeleteFunc(slices.Clone(l), func(m api.Mark) bool { return m.Chan == ch && m.Seq == seq })
}

// owned is l with another amount in one purse, new or not; without an amount it goes.
func owned(l []api.Purse, owner, denom string, amount uint64) []api.Purse {
	out := slices.DeleteFunc(slices.Clone(l), func(p api.Purse) bool { return p.Owner == owner && p.Denom == denom })
	if amount > 0 {
		out = append(out, api.Purse{Owner: owner, Denom: denom, Amount: amount})
	}
	slices.SortFunc(out, func(a, b api.Purse) int { return cmp.Or(cmp.Compare(a.Owner, b.Owner), cmp.Compare(a.Denom, b.Denom)) })
	return out
}

// work is a message that is being done, step by step.
type work struct {
	s    api.State
	m    api.Msg
	done api.Done
}

// step is a part of what a message asks: it tells what is wrong, and changes the work.
type step func(w *work) api.Errno

// numbered and plain are steps of what other chapters' calls answer.
func numbered(do func(s api.State, m api.Msg) (api.State, int, api.Errno)) step {
	return func(w *work) (err api.Errno) {
		w.s, w.done.Num, err = do(w.s, w.m)
		return err
	}
}

func plain(do func(s api.State, m api.Msg) (api.State, api.Errno)) step {
	return func(w *work) (err api.Errno) {
		w.s, err = do(w.s, w.m)
		return err
	}
}

// isTransfer is for what the message itself tells.
func isTransfer(w *work) api.Errno {
	_, err := bank.Parse(bank.Bytes(w.m.Transfer))
	return err
}

func noSafe(who func(t api.Transfer) string) step {
	return func(w *work) api.Errno {
		if name := who(w.m.Transfer); name[0] == '#' {
			return api.ErrName
		}
		return api.OK
	}
}

func sender(t api.Transfer) string { return t.Sender }
func reader(t api.Transfer) string { return t.Reader }

// backStep is for what may be a transfer.
func backStep(w *work) (err api.Errno) {
	if t, no := bank.Parse(w.m.Packet.Data); no == api.OK {
		w.s.Purses, err = bank.Back(w.s.Purses, w.m.Packet.From, t)
	}
	return err
}

func refusedStep(w *work) api.Errno {
	if string(w.m.Ack) != "0" {
		return api.OK
	}
	return backStep(w)
}

// recvStep receives first, and asks then what comes of it.
func recvStep(w *work) api.Errno {
	p := w.m.Packet
	done, err := packet.Recv(w.s, p, []byte("1"), w.m.Shown)
	no, _ := packet.Recv(w.s, p, []byte("0"), w.m.Shown)
	if err != api.OK {
		return err
	}
	w.s = no
	if t, bad := bank.Parse(p.Data); bad == api.OK && t.Reader[0] != '#' {
		if l, bad := bank.Come(done.Purses, p.To, p.From, t); bad == api.OK {
			w.s = done
			w.s.Purses = l
		}
	}
	return api.OK
}

func clientStep(does func(c api.Client, m api.Msg, now int) (api.Client, api.Errno)) step {
	return func(w *work) api.Errno {
		if w.m.Client < 0 || w.m.Client > len(w.s.Clients)-1 {
			return api.ErrNone
		}
		c, err := does(w.s.Clients[w.m.Client], w.m, w.s.Time)
		w.s.Clients = slices.Clone(w.s.Clients)
		w.s.Clients[w.m.Client] = c
		return err
	}
}

// stepsOf are the steps of each kind, as the chapter names them.
func stepsOf(kind int) []step {
	return map[int][]step{
		1: {func(w *work) api.Errno {
			if len(w.s.Clients) == 4 {
				return api.ErrMany
			}
			return api.OK
		}, func(w *work) api.Errno {
			c, err := client.New(w.m.Chain, w.m.Trust, w.m.Known)
			w.done.Num = len(w.s.Clients)
			w.s.Clients = append(slices.Clone(w.s.Clients), c)
			return err
		}},
		2: {clientStep(func(c api.Client, m api.Msg, now int) (api.Client, api.Errno) { return client.Follow(c, m.Update, now) })},
		3: {clientStep(func(c api.Client, m api.Msg, now int) (api.Client, api.Errno) {
			return client.Catch(c, m.Update, m.Second, now)
		})},
		4: {numbered(func(s api.State, m api.Msg) (api.State, int, api.Errno) { return conn.Init(s, m.Client, m.Other) })},
		5: {numbered(func(s api.State, m api.Msg) (api.State, int, api.Errno) {
			return conn.Try(s, m.Client, m.Other, m.OtherEnd, m.Shown)
		})},
		6: {plain(func(s api.State, m api.Msg) (api.State, api.Errno) { return conn.Ack(s, m.End, m.OtherEnd, m.Shown) })},
		7: {plain(func(s api.State, m api.Msg) (api.State, api.Errno) { return conn.Confirm(s, m.End, m.Shown) })},
		8: {numbered(func(s api.State, m api.Msg) (api.State, int, api.Errno) { return chans.Init(s, m.End, m.Ordered) })},
		9: {numbered(func(s api.State, m api.Msg) (api.State, int, api.Errno) {
			return chans.Try(s, m.End, m.Ordered, m.OtherEnd, m.Shown)
		})},
		10: {plain(func(s api.State, m api.Msg) (api.State, api.Errno) { return chans.Ack(s, m.End, m.OtherEnd, m.Shown) })},
		11: {plain(func(s api.State, m api.Msg) (api.State, api.Errno) { return chans.Confirm(s, m.End, m.Shown) })},
		12: {plain(func(s api.State, m api.Msg) (api.State, api.Errno) { return chans.Close(s, m.End) })},
		13: {plain(func(s api.State, m api.Msg) (api.State, api.Errno) { return chans.Closed(s, m.End, m.Shown) })},
		14: {isTransfer, noSafe(sender), func(w *work) (err api.Errno) {
			w.s, w.done.Packet, err = packet.Send(w.s, w.m.End, bank.Bytes(w.m.Transfer), w.m.Timeout)
			return err
		}, func(w *work) (err api.Errno) {
			w.s.Purses, err = bank.Leave(w.s.Purses, w.m.End, w.m.Transfer)
			return err
		}},
		15: {recvStep},
		16: {plain(func(s api.State, m api.Msg) (api.State, api.Errno) { return packet.Ack(s, m.Packet, m.Ack, m.Shown) }), refusedStep},
		17: {plain(func(s api.State, m api.Msg) (api.State, api.Errno) {
			return packet.Timeout(s, m.Packet, m.Next, m.Shown)
		}), backStep},
		18: {isTransfer, noSafe(sender), noSafe(reader), func(w *work) (err api.Errno) {
			t := w.m.Transfer
			w.s.Purses, err = bank.Move(w.s.Purses, t.Sender, t.Reader, t.Denom, t.Amount)
			return err
		}},
	}[kind]
}

// reference does the steps one by one, up to the first error.
func (x call) reference() (api.State, api.Done) {
	if err := state.Wrong(x.s); err != api.OK {
		return api.State{}, api.Done{Err: err}
	}
	steps := stepsOf(x.m.Kind)
	if len(steps) == 0 {
		return x.s, api.Done{Err: api.ErrKind}
	}
	w := work{s: x.s, m: x.m}
	for _, step := range steps {
		if err := step(&w); err != api.OK {
			return x.s, api.Done{Err: err}
		}
	}
	return w.s, w.done
}

// tell is the same of nil and of a list without entries.
func tell(l ...any) string { return fmt.Sprintf("%+v", l) }

// checkCall is for where the reference alone knows what must come.
func checkCall(t *testing.T, note string, x call) (api.State, api.Done) {
	t.Helper()
	s, done := Do(x.s, x.m)
	want, wantDone := x.reference()
	if tell(s, done) != tell(want, wantDone) {
		t.Errorf("%s, %s: %+v and %+v come, not %+v and %+v", x.name, note, s, done, want, wantDone)
	}
	if state.Wrong(x.s) == api.OK && state.Wrong(s) != api.OK {
		t.Errorf("%s, %s: the state is wrong: %d", x.name, note, state.Wrong(s))
	}
	return s, done
}

// check holds a call against the reference, and both against the error that must come.
func check(t *testing.T, note string, x call, want api.Errno) (api.State, api.Done) {
	t.Helper()
	s, done := checkCall(t, note, x)
	if done.Err != want {
		t.Errorf("%s, %s: %d comes, not %d", x.name, note, done.Err, want)
	}
	if want != api.OK && tell(s, done) != tell(x.s, api.Done{Err: want}) {
		t.Errorf("%s, %s: beside an error %+v and %+v come", x.name, note, s, done)
	}
	return s, done
}

// altered is a good scene with one change.
func altered(name string, change func(x *scene)) call {
	x := good(name)
	change(&x)
	return x.ready()
}

// carried is a good scene with another transfer.
func carried(name string, change func(t *api.Transfer)) call {
	return altered(name, func(x *scene) { x.carry(change) })
}
