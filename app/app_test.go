package app

import (
	"fmt"
	"math"
	"slices"
	"testing"

	"landbridge/api"
	"landbridge/state"
)

// comes holds what comes of a good message against what must: the state changed like that, and what is told.
func comes(t *testing.T, x call, want api.Done, change func(s *api.State)) {
	t.Helper()
	s, done := check(t, "good", x, api.OK)
	then := state.Copy(x.s)
	change(&then)
	if tell(s, done) != tell(then, want) {
		t.Errorf("%s: %+v and %+v come, not %+v and %+v", x.name, s, done, then, want)
	}
}

// M2: a client more.
func TestClients(t *testing.T) {
	x := good("Client").ready()
	comes(t, x, api.Done{Num: 3}, func(s *api.State) {
		s.Clients = append(s.Clients, api.Client{Chain: "e", Trust: 30, Known: []api.Known{{Height: 2, Time: 3, Root: filled(1), Next: filled(2)}}})
	})
	for count := range 5 {
		want := api.OK
		if count == 4 {
			want = api.ErrMany
		}
		y := altered("Client", func(x *scene) {
			x.own = api.State{Name: "a", Clients: slices.Repeat([]api.Client{following("c")}, count)}
		})
		if _, done := check(t, fmt.Sprintf("%d clients", count), y, want); want == api.OK && done.Num != count {
			t.Errorf("number %d comes, not %d", done.Num, count)
		}
	}
	for note, f := range map[string]struct {
		change func(m *api.Msg)
		want   api.Errno
	}{
		"no name":         {func(m *api.Msg) { m.Chain = "" }, api.ErrName},
		"no trust":        {func(m *api.Msg) { m.Trust = 0 }, api.ErrRange},
		"no height":       {func(m *api.Msg) { m.Known.Height = 0 }, api.ErrRange},
		"no root":         {func(m *api.Msg) { m.Known.Root = nil }, api.ErrForm},
		"no next":         {func(m *api.Msg) { m.Known.Next = m.Known.Next[1:] }, api.ErrForm},
		"one's own chain": {func(m *api.Msg) { m.Chain = "a" }, api.OK},
		"one there is":    {func(m *api.Msg) { m.Chain = "b" }, api.OK},
		"never active":    {func(m *api.Msg) { m.Trust, m.Known.Time = 1, 0 }, api.OK},
	} {
		check(t, note, altered("Client", func(x *scene) { f.change(&x.m) }), f.want)
	}
	check(t, "one too many, and no name", altered("Client", func(x *scene) {
		x.own.Clients = append(x.own.Clients, following("d"))
		x.m.Chain = ""
	}), api.ErrMany)
}

// M2: a client is told of a block, at the state's time, or of two of one height.
func TestClientsAreTold(t *testing.T) {
	comes(t, good("Follow").ready(), api.Done{}, func(s *api.State) {
		h := update(1).Signed.Header
		s.Clients[1].Known = append(s.Clients[1].Known, api.Known{Height: 7, Time: 8, Root: filled(1), Next: h.Next})
	})
	comes(t, good("Catch").ready(), api.Done{}, func(s *api.State) { s.Clients[1].Frozen = true })
	// What is believed and contradicts what is known freezes the client, and is no error.
	x := good("Follow").ready()
	x.s, _ = Do(x.s, x.m)
	x.m.Update = update(2)
	comes(t, x, api.Done{}, func(s *api.State) { s.Clients[1].Frozen = true })
	x.m.Update = update(1)
	comes(t, x, api.Done{}, func(s *api.State) {})
	for _, name := range []string{"Follow", "Catch"} {
		for n, want := range map[int]api.Errno{-1: api.ErrNone, 0: api.ErrName, 1: api.OK, 2: api.ErrName, 3: api.ErrNone, math.MinInt: api.ErrNone, math.MaxInt: api.ErrNone} {
			check(t, fmt.Sprintf("client %d", n), altered(name, func(x *scene) { x.m.Client = n }), want)
		}
		check(t, "no clients", altered(name, func(x *scene) { x.own.Clients, x.m.Client = nil, 0 }), api.ErrNone)
		check(t, "frozen", altered(name, func(x *scene) { x.own.Clients[1].Frozen = true }), api.ErrState)
		check(t, "no votes", altered(name, func(x *scene) { x.m.Update.Signed.Votes = nil }), api.ErrFit)
		// It is the state's time that tells what is too old, and what is too far ahead.
		for time, want := range map[int]api.Errno{0: api.OK, 9: api.OK, 25: api.OK, 26: api.ErrTime, api.MaxNum: api.ErrTime} {
			check(t, fmt.Sprintf("time %d", time), altered(name, func(x *scene) { x.own.Time = time }), want)
		}
	}
	check(t, "the same twice", altered("Catch", func(x *scene) { x.m.Second = x.m.Update }), api.ErrFit)
	check(t, "one without votes", altered("Catch", func(x *scene) { x.m.Second.Signed.Votes = nil }), api.ErrFit)
	check(t, "one alone", altered("Catch", func(x *scene) { x.m.Second = api.Update{} }), api.ErrName)
}

// M2: what chapter 9 says of connections.
func TestConnections(t *testing.T) {
	comes(t, good("ConnInit").ready(), api.Done{Num: 4}, func(s *api.State) {
		s.Conns = append(s.Conns, api.Conn{State: api.CoInit, Client: 1, OtherClient: 8, OtherConn: -1})
	})
	comes(t, good("ConnTry").ready(), api.Done{Num: 4}, func(s *api.State) {
		s.Conns = append(s.Conns, api.Conn{State: api.CoTry, Client: 1, OtherClient: 8, OtherConn: 3})
	})
	comes(t, good("ConnAck").ready(), api.Done{}, func(s *api.State) { s.Conns[3].State, s.Conns[3].OtherConn = api.CoOpen, 5 })
	comes(t, good("ConnDone").ready(), api.Done{}, func(s *api.State) { s.Conns[1].State = api.CoOpen })
	for _, name := range []string{"ConnInit", "ConnTry"} {
		check(t, "one too many", altered(name, func(x *scene) { x.own.Conns = slices.Repeat(x.own.Conns, 2) }), api.ErrMany)
		check(t, "no client", altered(name, func(x *scene) { x.m.Client = 5 }), api.ErrNone)
		check(t, "no other client", altered(name, func(x *scene) { x.m.Other = -1 }), api.ErrRange)
	}
	for _, name := range []string{"ConnAck", "ConnDone"} {
		check(t, "no end", altered(name, func(x *scene) { x.m.End = 4 }), api.ErrNone)
		check(t, "an open end", altered(name, func(x *scene) { x.m.End = 2 }), api.ErrState)
	}
	first := altered("ConnInit", func(x *scene) { x.own.Conns, x.own.Chans = nil, nil })
	comes(t, first, api.Done{}, func(s *api.State) {
		s.Conns = []api.Conn{{State: api.CoInit, Client: 1, OtherClient: 8, OtherConn: -1}}
	})
}

// M2: what chapter 10 says of channels.
func TestChannels(t *testing.T) {
	for _, order := range []bool{false, true} {
		comes(t, altered("ChanInit", func(x *scene) { x.m.Ordered = order }), api.Done{Num: 5}, func(s *api.State) {
			s.Chans = append(s.Chans, api.Chan{State: api.ChInit, Ordered: order, Conn: 2, OtherChan: -1, Send: 1, Recv: 1, Ack: 1})
		})
	}
	comes(t, good("ChanTry").ready(), api.Done{Num: 5}, func(s *api.State) {
		s.Chans = append(s.Chans, api.Chan{State: api.ChTry, Ordered: true, Conn: 2, OtherChan: 9, Send: 1, Recv: 1, Ack: 1})
	})
	comes(t, good("ChanAck").ready(), api.Done{}, func(s *api.State) { s.Chans[3].State, s.Chans[3].OtherChan = api.ChOpen, 10 })
	comes(t, good("ChanDone").ready(), api.Done{}, func(s *api.State) { s.Chans[4].State = api.ChOpen })
	for _, name := range []string{"Close", "Closed"} {
		comes(t, good(name).ready(), api.Done{}, func(s *api.State) { s.Chans[1].State = api.ChClosed })
	}
	check(t, "ordered otherwise", altered("ChanTry", func(x *scene) { x.m.Ordered = false }), api.ErrProof)
	for _, name := range []string{"ChanInit", "ChanTry"} {
		check(t, "one too many", altered(name, func(x *scene) { x.own.Chans = append(x.own.Chans, x.own.Chans[:3]...) }), api.ErrMany)
		check(t, "no connection", altered(name, func(x *scene) { x.m.End = 4 }), api.ErrNone)
		check(t, "none that is open", altered(name, func(x *scene) { x.m.End = 1 }), api.ErrState)
	}
	for _, name := range []string{"ChanAck", "ChanDone", "Close", "Closed"} {
		check(t, "no end", altered(name, func(x *scene) { x.m.End = 5 }), api.ErrNone)
		check(t, "an end that was never there", altered(name, func(x *scene) { x.m.End = -1 }), api.ErrNone)
	}
}

// M1 and M2: what must be shown is shown, and of that height.
func TestWhatIsShown(t *testing.T) {
	for _, name := range names {
		if x := good(name); x.key == "" {
			continue
		}
		early := api.ErrNone
		if face(name) == "Late" {
			early = api.ErrTime // height 0 is too early to tell
		}
		x := good(name).ready()
		x.m.Shown = api.Shown{Height: 6}
		check(t, "nothing", x, api.ErrProof)
		x.m.Shown = api.Shown{}
		check(t, "nothing at all", x, early)
		check(t, "another height", altered(name, func(x *scene) { x.height = 7 }), api.ErrNone)
		check(t, "when the client is no longer active", altered(name, func(x *scene) { x.own.Time = 26 }), api.ErrState)
		if name != "Late" {
			check(t, "what does not stand there", altered(name, func(x *scene) { delete(x.theirs, x.key) }), api.ErrProof)
			check(t, "something else", altered(name, func(x *scene) { x.key = "next/6" }), api.ErrProof)
		}
	}
}

// wrongStates are one of each error that Wrong tells.
func wrongStates() map[string]api.State {
	out := map[string]api.State{"nothing": {}}
	for note, change := range map[string]func(s *api.State){
		"no name":    func(s *api.State) { s.Name = "" },
		"no height":  func(s *api.State) { s.Height = -1 },
		"no time":    func(s *api.State) { s.Time = api.MaxNum + 1 },
		"many":       func(s *api.State) { s.Conns = slices.Repeat(s.Conns, 3) },
		"a client":   func(s *api.State) { s.Clients[2].Trust = 0 },
		"connection": func(s *api.State) { s.Conns[3].State = 0 },
		"a channel":  func(s *api.State) { s.Chans[4].Send = 0 },
		"a mark":     func(s *api.State) { s.Acks[1].Digest = nil },
		"marks":      func(s *api.State) { slices.Reverse(s.Sent) },
		"a purse":    func(s *api.State) { s.Purses[2].Amount = 0 },
		"an owner":   func(s *api.State) { s.Purses[2].Owner = "" },
		"purses":     func(s *api.State) { slices.Reverse(s.Purses) },
	} {
		s := sample()
		change(&s)
		out[note] = s
	}
	return out
}

// M1 and M4: of a state that is wrong this is told alone, and there is none.
func TestWrongStates(t *testing.T) {
	for note, s := range wrongStates() {
		want := state.Wrong(s)
		if want == api.OK {
			t.Fatalf("%s: it isn't wrong", note)
		}
		for kind := -1; kind < 21; kind++ {
			got, done := checkCall(t, note, call{note, s, api.Msg{Kind: kind}})
			if tell(got, done) != tell(api.State{}, api.Done{Err: want}) {
				t.Errorf("%s, kind %d: %+v and %+v come, not %d", note, kind, got, done, want)
			}
		}
		for _, name := range names {
			x := good(name).ready()
			if got, done := Do(s, x.m); tell(got, done) != tell(api.State{}, api.Done{Err: want}) {
				t.Errorf("%s, %s: %+v and %+v come, not %d", note, name, got, done, want)
			}
		}
		for _, later := range []int{math.MinInt, -1, 0, 1, api.MaxNum, math.MaxInt} {
			if got, err := Next(s, later); tell(got) != tell(api.State{}) || err != want {
				t.Errorf("%s, later %d: %+v and %d come, not %d", note, later, got, err, want)
			}
		}
	}
}

// M1: there are 18 kinds.
func TestKinds(t *testing.T) {
	full := good("Ack0").ready()
	full.m.Transfer = usual()
	for _, kind := range []int{math.MinInt, -18, -1, 0, 19, 20, 1 << 32, 1<<32 + 18, math.MaxInt} {
		full.m.Kind = kind
		check(t, "no such kind", full, api.ErrKind)
		check(t, "no such kind", call{"nothing", api.State{Name: "a"}, api.Msg{Kind: kind}}, api.ErrKind)
	}
	for i, name := range slices.CompactFunc(slices.Clone(names), func(a, b string) bool { return face(a) == face(b) }) {
		if x := good(name).ready(); x.m.Kind != i+1 {
			t.Errorf("%s has the kind %d", name, x.m.Kind)
		}
	}
	for _, name := range names {
		check(t, "good", good(name).ready(), api.OK)
	}
}

// M4
func TestNext(t *testing.T) {
	for _, x := range []struct {
		height, time, later int
		want                api.Errno
	}{
		{4, 9, 1, api.OK},
		{4, 9, 7, api.OK},
		{0, 0, 1, api.OK},
		{0, 0, api.MaxNum, api.OK},
		{0, 1, api.MaxNum - 1, api.OK},
		{0, 1, api.MaxNum, api.ErrRange},
		{0, 0, api.MaxNum + 1, api.ErrRange},
		{0, 9, 0, api.ErrRange},
		{0, 9, -1, api.ErrRange},
		{4, 9, -9, api.ErrRange},
		{4, 9, math.MinInt, api.ErrRange},
		{4, 9, math.MaxInt, api.ErrRange},
		{0, api.MaxNum - 1, 1, api.OK},
		{0, api.MaxNum - 1, 2, api.ErrRange},
		{0, api.MaxNum, 1, api.ErrRange},
		{0, api.MaxNum, -1, api.ErrRange},
		{0, api.MaxNum, math.MaxInt, api.ErrRange},
		{api.MaxNum - 1, 9, 1, api.OK},
		{api.MaxNum, 9, 1, api.ErrRange},
		{api.MaxNum - 1, api.MaxNum - 1, 1, api.OK},
		{api.MaxNum, api.MaxNum, 1, api.ErrRange},
	} {
		s := sample()
		s.Height, s.Time = x.height, x.time
		want := api.State{}
		if x.want == api.OK {
			want = state.Copy(s)
			want.Height, want.Time = x.height+1, x.time+x.later
		}
		if got, err := Next(s, x.later); tell(got) != tell(want) || err != x.want {
			t.Errorf("%+v: %+v and %d come, not %+v and %d", x, got, err, want, x.want)
		}
	}
}
