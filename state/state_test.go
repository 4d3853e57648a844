package state

import (
	"math"
	"math/rand"
	"slices"
	"strings"
	"testing"

	"landbridge/api"
	"landbridge/client"
)

// check asks Wrong, and all who tell first what it says.
func check(t *testing.T, name string, s api.State, want api.Errno) {
	t.Helper()
	if got := Wrong(s); got != want {
		t.Errorf("%s: %d comes, not %d", name, got, want)
	}
	if want != referenceWrong(s) {
		t.Errorf("%s: the reference answers otherwise", name)
	}
	if l, err := Book(s); err != want || want != api.OK && len(l) > 0 {
		t.Errorf("%s: of Book %v and %d come", name, l, err)
	}
	if d, err := Root(s); err != want || want != api.OK && len(d) > 0 {
		t.Errorf("%s: of Root %v and %d come", name, d, err)
	}
}

// changed is the sample with one change.
func changed(change func(s *api.State)) api.State {
	s := sample()
	change(&s)
	return s
}

// H1
func TestNames(t *testing.T) {
	named := func(name string) api.State { return changed(func(s *api.State) { s.Name = name }) }
	for b := range 256 {
		want := api.ErrName
		if strings.IndexByte("abcdefghijklmnopqrstuvwxyz0123456789", byte(b)) >= 0 {
			want = api.OK
		}
		c := string([]byte{byte(b)})
		for _, name := range []string{c, "x" + c, strings.Repeat("x", 19) + c} {
			check(t, name, named(name), want)
		}
	}
	for n := range 50 {
		want := api.OK
		if n < 1 || n > 20 {
			want = api.ErrName
		}
		check(t, "a long name", named(strings.Repeat("7", n)), want)
	}
	check(t, "another name", named("é"), api.ErrName)
	check(t, "a very long name", named(strings.Repeat("a", 1<<20)), api.ErrName)
}

// numberFrom is for numbers that are from low on: at the edges, and beyond.
func numberFrom(t *testing.T, name string, low int, change func(s *api.State, n int)) {
	t.Helper()
	for n, want := range map[int]api.Errno{
		math.MinInt:       api.ErrRange,
		-1 << 32:          api.ErrRange,
		low - 1:           api.ErrRange,
		low:               api.OK,
		low + 1:           api.OK,
		1 << 32:           api.OK,
		1000000000000 - 1: api.OK,
		1000000000000:     api.OK,
		1000000000000 + 1: api.ErrRange,
		math.MaxInt - 1:   api.ErrRange,
		math.MaxInt:       api.ErrRange,
	} {
		check(t, name, changed(func(s *api.State) { change(s, n) }), want)
	}
}

// H1
func TestHeightsAndTimes(t *testing.T) {
	numberFrom(t, "a height", 0, func(s *api.State, n int) { s.Height = n })
	numberFrom(t, "a time", 0, func(s *api.State, n int) { s.Time = n })
}

// H1: as many as may be of each sort, one more, and one more of nothing.
func TestHowMany(t *testing.T) {
	check(t, "nothing but a name", api.State{Name: "z"}, api.OK)
	check(t, "all of it", greatest(), api.OK)
	clients := func(n int) (out []api.Client) {
		for range n {
			out = append(out, following("b"))
		}
		return out
	}
	marks := func(n int) (out []api.Mark) {
		for i := range n {
			out = append(out, api.Mark{Seq: i + 1, Digest: filled(0)})
		}
		return out
	}
	purses := func(n int) (out []api.Purse) {
		for i := range n {
			out = append(out, api.Purse{Owner: "a", Denom: string([]byte{byte(i)}), Amount: 1})
		}
		return out
	}
	conns := func(n int) []api.Conn { return slices.Repeat([]api.Conn{{State: 1}}, n) }
	chans := func(n int) []api.Chan { return slices.Repeat([]api.Chan{{State: 1, Send: 1, Recv: 1, Ack: 1}}, n) }
	for _, one := range []struct {
		name   string
		most   int
		change func(s *api.State, n int)
		empty  func(s *api.State, n int)
	}{
		{"clients", 4, func(s *api.State, n int) { s.Clients = clients(n) }, func(s *api.State, n int) { s.Clients = make([]api.Client, n) }},
		{"connections", 8, func(s *api.State, n int) { s.Conns = conns(n) }, func(s *api.State, n int) { s.Conns = make([]api.Conn, n) }},
		{"channels", 8, func(s *api.State, n int) { s.Chans = chans(n) }, func(s *api.State, n int) { s.Chans = make([]api.Chan, n) }},
		{"sent", 50, func(s *api.State, n int) { s.Sent = marks(n) }, func(s *api.State, n int) { s.Sent = make([]api.Mark, n) }},
		{"got", 50, func(s *api.State, n int) { s.Got = marks(n) }, func(s *api.State, n int) { s.Got = make([]api.Mark, n) }},
		{"acks", 50, func(s *api.State, n int) { s.Acks = marks(n) }, func(s *api.State, n int) { s.Acks = make([]api.Mark, n) }},
		{"purses", 60, func(s *api.State, n int) { s.Purses = purses(n) }, func(s *api.State, n int) { s.Purses = make([]api.Purse, n) }},
	} {
		for n := range one.most + 1 {
			check(t, one.name, changed(func(s *api.State) { one.change(s, n) }), api.OK)
		}
		for _, n := range []int{one.most + 1, one.most + 2, 200} {
			check(t, one.name+", too many", changed(func(s *api.State) { one.change(s, n) }), api.ErrMany)
			check(t, one.name+", too many, and nothing", changed(func(s *api.State) { one.empty(s, n) }), api.ErrMany)
			alone := api.State{Name: "z"}
			one.change(&alone, n)
			check(t, one.name+", too many of them alone", alone, api.ErrMany)
		}
	}
}

// H1: what Wrong of chapter 7 says, at each place.
func TestClientsOfStates(t *testing.T) {
	for place := range 4 {
		for want, change := range map[api.Errno]func(c *api.Client){
			api.OK:       func(c *api.Client) { c.Frozen = true },
			api.ErrName:  func(c *api.Client) { c.Chain = "B" },
			api.ErrRange: func(c *api.Client) { c.Trust = 0 },
			api.ErrMany:  func(c *api.Client) { c.Known = nil },
			api.ErrForm:  func(c *api.Client) { c.Known = append(c.Known, c.Known[0]) },
		} {
			s := sample()
			s.Clients = []api.Client{following("b"), following("c"), following("d"), following("e")}
			change(&s.Clients[place])
			if client.Wrong(s.Clients[place]) != want {
				t.Fatalf("%d isn't what is wrong with the client", want)
			}
			check(t, "a client", s, want)
			s.Clients = s.Clients[:place+1]
			check(t, "the last client", s, want)
		}
	}
	check(t, "a client of nothing", changed(func(s *api.State) { s.Clients = make([]api.Client, 1) }), api.ErrName)
	check(t, "a client of the chain itself", changed(func(s *api.State) { s.Clients[0].Chain = s.Name }), api.OK)
}

// H1
func TestConnections(t *testing.T) {
	for place := range 3 {
		numberFrom(t, "a client", 0, func(s *api.State, n int) { s.Conns[place].Client = n })
		numberFrom(t, "the other client", 0, func(s *api.State, n int) { s.Conns[place].OtherClient = n })
		numberFrom(t, "the other connection", -1, func(s *api.State, n int) { s.Conns[place].OtherConn = n })
		for n, want := range map[int]api.Errno{
			math.MinInt: api.ErrKind, -1: api.ErrKind, 0: api.ErrKind, 1: api.OK, 2: api.OK, 3: api.OK, 4: api.ErrKind, 257: api.ErrKind, math.MaxInt: api.ErrKind,
		} {
			check(t, "a connection's state", changed(func(s *api.State) { s.Conns[place].State = n }), want)
		}
	}
}

// H1
func TestChannels(t *testing.T) {
	for place := range 3 {
		numberFrom(t, "a connection", 0, func(s *api.State, n int) { s.Chans[place].Conn = n })
		numberFrom(t, "the other channel", -1, func(s *api.State, n int) { s.Chans[place].OtherChan = n })
		numberFrom(t, "what is sent next", 1, func(s *api.State, n int) { s.Chans[place].Send = n })
		numberFrom(t, "what is received next", 1, func(s *api.State, n int) { s.Chans[place].Recv = n })
		numberFrom(t, "what is acknowledged next", 1, func(s *api.State, n int) { s.Chans[place].Ack = n })
		for n, want := range map[int]api.Errno{
			math.MinInt: api.ErrKind, -1: api.ErrKind, 0: api.ErrKind, 1: api.OK, 2: api.OK, 3: api.OK, 4: api.OK, 5: api.ErrKind, 257: api.ErrKind, math.MaxInt: api.ErrKind,
		} {
			check(t, "a channel's state", changed(func(s *api.State) { s.Chans[place].State = n }), want)
		}
	}
}

// kindsOfMarks: the lists of marks, each asked as the others are.
var kindsOfMarks = map[string]func(s *api.State) *[]api.Mark{
	"sent": func(s *api.State) *[]api.Mark { return &s.Sent },
	"got":  func(s *api.State) *[]api.Mark { return &s.Got },
	"acks": func(s *api.State) *[]api.Mark { return &s.Acks },
}

// H1
func TestMarks(t *testing.T) {
	for kind, of := range kindsOfMarks {
		numberFrom(t, kind+", the channel of one alone", 0, func(s *api.State, n int) { *of(s) = []api.Mark{{Chan: n, Seq: 1, Digest: filled(0)}} })
		numberFrom(t, kind+", the number of one alone", 1, func(s *api.State, n int) { *of(s) = []api.Mark{{Seq: n, Digest: filled(0)}} })
		for place := range 3 {
			list := func() []api.Mark {
				return []api.Mark{{Chan: 2, Seq: 2, Digest: filled(1)}, {Chan: 4, Seq: 2, Digest: filled(1)}, {Chan: 6, Seq: 2, Digest: filled(1)}}
			}
			for want, changes := range map[api.Errno][]func(m *api.Mark){
				api.OK: {
					func(m *api.Mark) {},
					func(m *api.Mark) { m.Seq = 1 },
					func(m *api.Mark) { m.Seq = api.MaxNum },
					func(m *api.Mark) { m.Digest = filled(0) },
				},
				api.ErrRange: {
					func(m *api.Mark) { m.Chan = -1 },
					func(m *api.Mark) { m.Chan = api.MaxNum + 1 },
					func(m *api.Mark) { m.Seq = 0 },
					func(m *api.Mark) { m.Seq = api.MaxNum + 1 },
				},
				api.ErrForm: {
					func(m *api.Mark) { m.Digest = nil },
					func(m *api.Mark) { m.Digest = m.Digest[:31] },
					func(m *api.Mark) { m.Digest = append(m.Digest, 0) },
					func(m *api.Mark) { m.Digest = make([]byte, 64) },
				},
			} {
				for _, change := range changes {
					l := list()
					change(&l[place])
					check(t, kind, changed(func(s *api.State) { *of(s) = l }), want)
					check(t, kind+", the last one", changed(func(s *api.State) { *of(s) = l[:place+1] }), want)
				}
			}
		}
	}
}

// H1: by the channel, then the number.
func TestMarksRise(t *testing.T) {
	for kind, of := range kindsOfMarks {
		at := func(numbers ...[2]int) api.State {
			return changed(func(s *api.State) {
				*of(s) = nil
				for _, n := range numbers {
					*of(s) = append(*of(s), api.Mark{Chan: n[0], Seq: n[1], Digest: filled(9)})
				}
			})
		}
		check(t, kind+", the least and the greatest", at([2]int{0, 1}, [2]int{api.MaxNum, api.MaxNum}), api.OK)
		check(t, kind+", numbers rise", at([2]int{3, 2}, [2]int{3, 10}, [2]int{3, 11}), api.OK)
		check(t, kind+", channels rise, numbers fall", at([2]int{2, 9}, [2]int{10, 8}, [2]int{11, 7}), api.OK)
		check(t, kind+", one twice", at([2]int{3, 2}, [2]int{3, 2}), api.ErrForm)
		check(t, kind+", numbers fall", at([2]int{3, 10}, [2]int{3, 9}), api.ErrForm)
		check(t, kind+", channels fall", at([2]int{4, 1}, [2]int{3, 1}), api.ErrForm)
		check(t, kind+", channels fall, numbers rise", at([2]int{4, 1}, [2]int{3, 2}), api.ErrForm)
		check(t, kind+", the last one falls", at([2]int{1, 1}, [2]int{2, 1}, [2]int{3, 1}, [2]int{2, 2}), api.ErrForm)
		check(t, kind+", less than the last but one", at([2]int{1, 5}, [2]int{1, 3}, [2]int{1, 6}), api.ErrForm)
		check(t, kind+", greater than the first alone", at([2]int{1, 1}, [2]int{1, 3}, [2]int{1, 2}), api.ErrForm)
	}
}

// H1: each kind's marks rise for themselves, and need no channel that there is.
func TestMarksOfAKindAreForThemselves(t *testing.T) {
	l := []api.Mark{{Chan: 900, Seq: 4, Digest: filled(1)}, {Chan: 901, Seq: 1, Digest: filled(1)}}
	check(t, "the same ones", api.State{Name: "z", Sent: l, Got: l, Acks: l}, api.OK)
	lower := []api.Mark{{Chan: 0, Seq: 1, Digest: filled(1)}}
	check(t, "lower ones behind", api.State{Name: "z", Sent: l, Got: lower, Acks: lower}, api.OK)
}

// H1: words are of 1 to 40 bytes, whatever these are.
func TestWordsOfPurses(t *testing.T) {
	purse := func(owner, denom string, n uint64) api.State {
		return api.State{Name: "z", Purses: []api.Purse{{Owner: owner, Denom: denom, Amount: n}}}
	}
	for n := range 60 {
		want := api.OK
		if n < 1 || n > 40 {
			want = api.ErrMuch
		}
		check(t, "an owner", purse(strings.Repeat("o", n), "d", 1), want)
		check(t, "what is owned", purse("o", strings.Repeat("d", n), 1), want)
	}
	check(t, "twenty runes of two bytes", purse(strings.Repeat("é", 20), strings.Repeat("é", 20), 1), api.OK)
	check(t, "21 runes of two bytes", purse(strings.Repeat("é", 21), "d", 1), api.ErrMuch)
	check(t, "21 runes of two bytes, owned", purse("o", strings.Repeat("é", 21), 1), api.ErrMuch)
	for b := range 256 {
		c := string([]byte{byte(b)})
		check(t, "any byte", purse(c, c, 1), api.OK)
	}
	check(t, "a very long owner", purse(strings.Repeat("o", 1<<20), "d", 1), api.ErrMuch)
	for n, want := range map[uint64]api.Errno{0: api.ErrRange, 1: api.OK, 1 << 32: api.OK, 1 << 63: api.OK, math.MaxUint64: api.OK} {
		check(t, "an amount", purse("o", "d", n), want)
		check(t, "the last one's amount", changed(func(s *api.State) { s.Purses[2].Amount = n }), want)
	}
	for place := range 3 {
		check(t, "nobody", changed(func(s *api.State) { s.Purses[place].Owner = "" }), api.ErrMuch)
		check(t, "nothing", changed(func(s *api.State) { s.Purses[place].Denom = "" }), api.ErrMuch)
		check(t, "none of it", changed(func(s *api.State) { s.Purses[place].Amount = 0 }), api.ErrRange)
	}
	// Amounts need not be in all what one number holds.
	check(t, "more than can be added", changed(func(s *api.State) { s.Purses[0].Amount = math.MaxUint64 }), api.OK)
}

// H1: by the owner, then by what is owned, byte by byte.
func TestPursesRise(t *testing.T) {
	of := func(words ...string) api.State {
		var l []api.Purse
		for i := 0; i < len(words); i += 2 {
			l = append(l, api.Purse{Owner: words[i], Denom: words[i+1], Amount: uint64(90 - i)})
		}
		return api.State{Name: "z", Purses: l}
	}
	check(t, "by owners", of("a", "z", "b", "y", "c", "x"), api.OK)
	check(t, "by what is owned", of("a", "x", "a", "y", "a", "z"), api.OK)
	check(t, "one that begins another one", of("a", "a", "aa", "a", "ab", "a"), api.OK)
	check(t, "what begins another one", of("a", "a", "a", "aa", "a", "ab"), api.OK)
	check(t, "one twice", of("a", "x", "a", "x"), api.ErrForm)
	check(t, "owners fall", of("b", "x", "a", "x"), api.ErrForm)
	check(t, "owners fall, what is owned rises", of("b", "x", "a", "y"), api.ErrForm)
	check(t, "what is owned falls", of("a", "y", "a", "x"), api.ErrForm)
	check(t, "one behind one that it begins", of("ab", "x", "a", "x"), api.ErrForm)
	check(t, "the same when put together", of("ab", "c", "a", "bc"), api.ErrForm)
	check(t, "the same when put together, rising", of("a", "bc", "ab", "c"), api.OK)
	check(t, "numbers are texts", of("10", "x", "9", "x"), api.OK)
	check(t, "numbers are no numbers", of("9", "x", "10", "x"), api.ErrForm)
	check(t, "large letters are less", of("Z", "x", "a", "x"), api.OK)
	check(t, "small letters are not", of("a", "x", "Z", "x"), api.ErrForm)
	check(t, "bytes have no sign", of("\x7f", "x", "\x80", "x", "\xff", "x"), api.OK)
	check(t, "bytes have no sign, falling", of("\xff", "x", "\x7f", "x"), api.ErrForm)
	check(t, "the last one falls", of("a", "x", "b", "x", "c", "x", "b", "y"), api.ErrForm)
	check(t, "less than the last but one", of("a", "3", "a", "2", "a", "4"), api.ErrForm)
}

// H1: all errors together, and each without those ahead of it.
func TestTheFirstError(t *testing.T) {
	breaks := []struct {
		want   api.Errno
		change func(s *api.State)
	}{
		{api.ErrForm, func(s *api.State) { s.Purses[1].Owner = "a" }},
		{api.ErrRange, func(s *api.State) { s.Purses[1].Amount = 0 }},
		{api.ErrMuch, func(s *api.State) { s.Purses[1].Denom = "" }},
		{api.ErrForm, func(s *api.State) { s.Acks[1].Digest = nil }},
		{api.ErrRange, func(s *api.State) { s.Acks[1].Seq = 0 }},
		{api.ErrForm, func(s *api.State) { s.Got[1].Digest = nil }},
		{api.ErrRange, func(s *api.State) { s.Got[1].Seq = 0 }},
		{api.ErrForm, func(s *api.State) { s.Sent[1].Digest = nil }},
		{api.ErrRange, func(s *api.State) { s.Sent[1].Seq = 0 }},
		{api.ErrRange, func(s *api.State) { s.Chans[1].Recv = 0 }},
		{api.ErrKind, func(s *api.State) { s.Chans[1].State = 0 }},
		{api.ErrRange, func(s *api.State) { s.Conns[1].Client = -1 }},
		{api.ErrKind, func(s *api.State) { s.Conns[1].State = 0 }},
		{api.ErrForm, func(s *api.State) { s.Clients[1].Known[0].Root = nil }},
		{api.ErrMany, func(s *api.State) { s.Clients = append(s.Clients, make([]api.Client, 3)...) }},
		{api.ErrRange, func(s *api.State) { s.Time = -1 }},
		{api.ErrName, func(s *api.State) { s.Name = "" }},
	}
	for set := range 1 << len(breaks) {
		s, want := sample(), api.OK
		for i, b := range breaks {
			if set>>i&1 == 1 {
				b.change(&s)
				want = b.want
			}
		}
		if got := Wrong(s); got != want || referenceWrong(s) != want {
			t.Fatalf("%b: %d comes, not %d", set, got, want)
		}
	}
	check(t, "nothing at all", api.State{}, api.ErrName)
}

// H1: entry by entry, not error by error.
func TestTheFirstEntryThatIsWrong(t *testing.T) {
	two := func(want api.Errno, name string, first, second func(s *api.State)) {
		t.Helper()
		check(t, name, changed(func(s *api.State) { first(s); second(s) }), want)
	}
	two(api.ErrForm, "clients", func(s *api.State) { s.Clients[0].Known[0].Next = nil }, func(s *api.State) { s.Clients[1].Chain = "" })
	two(api.ErrName, "clients, the other way", func(s *api.State) { s.Clients[0].Chain = "" }, func(s *api.State) { s.Clients[1].Known[0].Next = nil })
	two(api.ErrRange, "connections", func(s *api.State) { s.Conns[0].OtherConn = -2 }, func(s *api.State) { s.Conns[1].State = 4 })
	two(api.ErrKind, "connections, the other way", func(s *api.State) { s.Conns[0].State = 4 }, func(s *api.State) { s.Conns[1].OtherConn = -2 })
	two(api.ErrRange, "channels", func(s *api.State) { s.Chans[0].Ack = 0 }, func(s *api.State) { s.Chans[1].State = 5 })
	two(api.ErrKind, "channels, the other way", func(s *api.State) { s.Chans[0].State = 5 }, func(s *api.State) { s.Chans[1].Ack = 0 })
	for kind, of := range kindsOfMarks {
		two(api.ErrForm, kind, func(s *api.State) { (*of(s))[0].Digest = nil }, func(s *api.State) { (*of(s))[1].Chan = -1 })
		two(api.ErrRange, kind+", the other way", func(s *api.State) { (*of(s))[0].Chan = -1 }, func(s *api.State) { (*of(s))[1].Digest = nil })
		two(api.ErrRange, kind+", one that is not less, and no number", func(s *api.State) { (*of(s))[1].Seq = 0 }, func(s *api.State) { (*of(s))[1].Chan = 0 })
	}
	two(api.ErrForm, "sent, ahead of got", func(s *api.State) { s.Sent[1].Seq = 1 }, func(s *api.State) { s.Got[0].Seq = 0 })
	two(api.ErrForm, "got, ahead of acks", func(s *api.State) { s.Got[1].Chan = 0 }, func(s *api.State) { s.Acks[0].Seq = 0 })
	two(api.ErrForm, "purses, the order first", func(s *api.State) { s.Purses[1].Owner = "a" }, func(s *api.State) { s.Purses[2].Amount = 0 })
	two(api.ErrRange, "purses, the amount first", func(s *api.State) { s.Purses[1].Amount = 0 }, func(s *api.State) { s.Purses[2].Denom = "" })
	two(api.ErrMuch, "purses, the word first", func(s *api.State) { s.Purses[0].Denom = "" }, func(s *api.State) { s.Purses[1].Amount = 0 })
	two(api.ErrRange, "a purse out of order, and of nothing", func(s *api.State) { s.Purses[1].Owner = "a" }, func(s *api.State) { s.Purses[1].Amount = 0 })
	two(api.ErrRange, "a connection ahead of a channel", func(s *api.State) { s.Conns[2].Client = -1 }, func(s *api.State) { s.Chans[0].State = 0 })
	two(api.ErrRange, "a channel ahead of a mark", func(s *api.State) { s.Chans[2].Send = 0 }, func(s *api.State) { s.Sent[0].Digest = nil })
	two(api.ErrForm, "a mark ahead of a purse", func(s *api.State) { s.Acks[1].Digest = nil }, func(s *api.State) { s.Purses[0].Amount = 0 })
}

// H1: numbers of what there is not are no error: a state may tell of what it has not.
func TestNumbersOfNothing(t *testing.T) {
	s := api.State{
		Name:  "z",
		Conns: []api.Conn{{State: 3, Client: 77, OtherClient: 78, OtherConn: -1}, {State: 1, OtherConn: 5}},
		Chans: []api.Chan{{State: 3, Conn: 99, OtherChan: -1, Send: 1, Recv: 8, Ack: 9}},
		Sent:  []api.Mark{{Chan: 55, Seq: 3, Digest: filled(0)}},
	}
	check(t, "numbers of nothing", s, api.OK)
}

// H1, H2
func TestInventedStates(t *testing.T) {
	chance := rand.New(rand.NewSource(8))
	seen := map[api.Errno]int{}
	for range 20000 {
		seen[checkInvented(t, invented(chance.Intn))]++
		if t.Failed() {
			return
		}
	}
	for _, err := range []api.Errno{api.OK, api.ErrKind, api.ErrForm, api.ErrRange, api.ErrMuch, api.ErrMany, api.ErrName} {
		if seen[err] < 20 {
			t.Errorf("%d comes %d times alone", err, seen[err])
		}
	}
}

// checkInvented holds all calls against the reference, and answers what is wrong.
func checkInvented(t *testing.T, s api.State) api.Errno {
	t.Helper()
	want := referenceWrong(s)
	check(t, "invented", s, want)
	if want == api.OK {
		checkBook(t, "invented", s, referenceBook(s))
	}
	return want
}
