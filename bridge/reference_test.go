package bridge

import (
	"cmp"
	"fmt"
	"slices"
	"strings"
	"testing"

	"landbridge/api"
	"landbridge/app"
	"landbridge/header"
	"landbridge/proof"
	"landbridge/seal"
	"landbridge/state"
)

// past is all that a chain has been: its state as each of its blocks ended, and as it stands now.
type past struct {
	ended []api.State
	now   api.State
}

// story is what happens on two chains, as it is told, and what comes of it, as the chapter says.
type story struct {
	sides [2]*past
	l     []api.Ev
	done  []api.Done
}

func newStory() *story {
	return &story{sides: [2]*past{
		{now: api.State{Name: "a", Height: 1, Time: 1, Purses: []api.Purse{{Owner: "ann", Denom: "gold", Amount: 1000}}}},
		{now: api.State{Name: "b", Height: 1, Time: 1, Purses: []api.Purse{{Owner: "bob", Denom: "silver", Amount: 1000}}}},
	}}
}

func seedsOf(name string) [][]byte {
	return [][]byte{[]byte(name + "0"), []byte(name + "1"), []byte(name + "2")}
}

func valsOf(name string) []api.Val {
	var out []api.Val
	for _, seed := range seedsOf(name) {
		out = append(out, api.Val{Key: seal.Key(seed), Power: 1})
	}
	slices.SortFunc(out, func(a, b api.Val) int { return cmp.Compare(a.Key, b.Key) })
	return out
}

// headerOf is that of a block that ends as s.
func headerOf(s api.State) api.Header {
	root, _ := state.Root(s)
	told := header.Digest(valsOf(s.Name))
	return api.Header{Chain: s.Name, Height: s.Height, Time: s.Time, Root: root, Vals: told, Next: told}
}

// signed is a header with the votes of its chain's validators, or of some of them.
func signed(h api.Header, seeds ...[]byte) api.Signed {
	out, _ := header.Sign(h, valsOf(h.Chain), seeds)
	return out
}

// knownOf is what a client knows of such a header.
func knownOf(h api.Header) api.Known {
	return api.Known{Height: h.Height, Time: h.Time, Root: h.Root, Next: h.Next}
}

func newest(c api.Client) int { return c.Known[len(c.Known)-1].Height }

// happen adds something to the story, and tells what comes of it.
func (x *story) happen(e api.Ev) api.Done {
	done := x.come(e)
	x.l, x.done = append(x.l, e), append(x.done, done)
	return done
}

func (x *story) come(e api.Ev) api.Done {
	if e.Side != 0 && e.Side != 1 {
		return api.Done{Err: api.ErrKind}
	}
	own, other := x.sides[e.Side], x.sides[1-e.Side]
	met := len(other.ended) > 0
	var last api.Header
	if met {
		last = headerOf(other.ended[len(other.ended)-1])
	}
	switch {
	case e.Kind == 1:
		return own.end(e.Later)
	case e.Kind == 2 && met:
		return own.ask(api.Msg{Kind: 1, Chain: last.Chain, Trust: e.Trust, Known: knownOf(last)})
	case e.Kind == 3 && met && slices.Contains(numbersOf(own.now.Clients), e.Client):
		u := api.Update{From: newest(own.now.Clients[e.Client]), Signed: signed(last, seedsOf(last.Chain)...), Trusted: valsOf(last.Chain)}
		return own.ask(api.Msg{Kind: 2, Client: e.Client, Update: u})
	case e.Kind == 2 || e.Kind == 3:
		return api.Done{Err: api.ErrNone}
	case e.Kind == 4:
		return own.ask(e.Msg)
	case e.Kind == 5:
		return own.ask(own.carry(other, e.Msg))
	}
	return api.Done{Err: api.ErrKind}
}

func numbersOf[T any](l []T) []int {
	var out []int
	for i := range l {
		out = append(out, i)
	}
	return out
}

func (own *past) end(later int) api.Done {
	next, err := app.Next(own.now, later)
	if err != api.OK {
		return api.Done{Err: err}
	}
	own.ended = append(own.ended, own.now)
	own.now = next
	return api.Done{Num: len(own.ended)}
}

func (own *past) ask(m api.Msg) (done api.Done) {
	own.now, done = app.Do(own.now, m)
	return done
}

// at answers entry i of l, if there is one.
func at[T any](l []T, i int) (out T, there bool) {
	if slices.Contains(numbersOf(l), i) {
		return l[i], true
	}
	return out, false
}

// carry lays into m what it shows: by its kind a client, a key, and whether there is something under that.
func (own *past) carry(other *past, m api.Msg) api.Msg {
	m.Shown = api.Shown{}
	p := m.Packet
	conn, isConn := at(own.now.Conns, m.End)
	ch, isChan := at(own.now.Chans, m.End)
	to, isTo := at(own.now.Chans, p.To)
	from, isFrom := at(own.now.Chans, p.From)
	over := func(c api.Chan) int { return own.now.Conns[c.Conn].Client }
	var client int
	var key string
	switch {
	case m.Kind == 5:
		client, key = m.Client, fmt.Sprint("conn/", m.OtherEnd)
	case m.Kind == 6 && isConn:
		client, key = conn.Client, fmt.Sprint("conn/", m.OtherEnd)
	case m.Kind == 7 && isConn:
		client, key = conn.Client, fmt.Sprint("conn/", conn.OtherConn)
	case m.Kind == 9 && isConn:
		client, key = conn.Client, fmt.Sprint("chan/", m.OtherEnd)
	case m.Kind == 10 && isChan:
		client, key = over(ch), fmt.Sprint("chan/", m.OtherEnd)
	case (m.Kind == 11 || m.Kind == 13) && isChan:
		client, key = over(ch), fmt.Sprint("chan/", ch.OtherChan)
	case m.Kind == 15 && isTo:
		client, key = over(to), fmt.Sprintf("sent/%d/%d", p.From, p.Seq)
	case m.Kind == 16 && isFrom:
		client, key = over(from), fmt.Sprintf("ack/%d/%d", p.To, p.Seq)
	case m.Kind == 17 && isFrom && from.Ordered:
		client, key = over(from), fmt.Sprint("next/", p.To)
	case m.Kind == 17 && isFrom:
		client, key = over(from), fmt.Sprintf("got/%d/%d", p.To, p.Seq)
	default:
		return m
	}
	return own.layFrom(other, m, client, key)
}

// layFrom looks for the block of that height, whatever its place.
func (own *past) layFrom(other *past, m api.Msg, number int, key string) api.Msg {
	c, is := at(own.now.Clients, number)
	if !is {
		return m
	}
	for _, s := range other.ended {
		if s.Height != newest(c) {
			continue
		}
		pairs, _ := state.Book(s)
		m.Shown.Height = s.Height
		if strings.HasPrefix(key, "got") {
			m.Shown.Gap, _ = proof.ShowGap(pairs, []byte(key))
			return m
		}
		m.Shown.Proof, _ = proof.Show(pairs, []byte(key))
		if there, is := at(s.Chans, m.Packet.To); is && strings.HasPrefix(key, "next") {
			m.Next = there.Recv
		}
	}
	return m
}

// must adds what must come to that error.
func (x *story) must(t testing.TB, want api.Errno, e api.Ev) api.Done {
	t.Helper()
	done := x.happen(e)
	if done.Err != want {
		t.Fatalf("event %d, %+v: %d comes, not %d", len(x.l)-1, e, done.Err, want)
	}
	return done
}

// tell is the same of nil and of a list without entries.
func tell(l ...any) string { return fmt.Sprintf("%+v", l) }

// check holds Play against the story.
func (x *story) check(t testing.TB) {
	t.Helper()
	w, done, err := Play(x.l)
	if err != api.OK || len(done) != len(x.l) {
		t.Fatalf("%d of %d events, and %d come", len(done), len(x.l), err)
	}
	for i := range done {
		if tell(done[i]) != tell(x.done[i]) {
			t.Errorf("event %d, %+v: %+v comes, not %+v", i, x.l[i], done[i], x.done[i])
		}
	}
	if want := (api.World{Left: x.sides[0].now, Right: x.sides[1].now}); tell(w) != tell(want) {
		t.Errorf("%+v comes, not %+v", w, want)
	}
}

// told is a story of what happens in l.
func told(l []api.Ev) *story {
	x := newStory()
	for _, e := range l {
		x.happen(e)
	}
	return x
}

func ends(side int) api.Ev { return api.Ev{Kind: api.EvBlock, Side: side, Later: 1} }

func follow(side, client int) api.Ev {
	return api.Ev{Kind: api.EvFollow, Side: side, Client: client}
}

func ask(side int, m api.Msg) api.Ev { return api.Ev{Kind: api.EvMsg, Side: side, Msg: m} }

func show(side int, m api.Msg) api.Ev { return api.Ev{Kind: api.EvShow, Side: side, Msg: m} }

// tick ends a block of each chain, and lets client 0 of each follow.
func (x *story) tick(t testing.TB) {
	t.Helper()
	for _, e := range []api.Ev{ends(0), ends(1), follow(0, 0), follow(1, 0)} {
		x.must(t, api.OK, e)
	}
}

// linked is the story of two chains with an open channel.
func linked(t testing.TB, ordered bool) *story {
	t.Helper()
	x := newStory()
	for _, e := range Link(ordered, 1000) {
		x.must(t, api.OK, e)
	}
	return x
}
