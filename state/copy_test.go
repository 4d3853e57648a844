package state

import (
	"bytes"
	"fmt"
	"math"
	"reflect"
	"strings"
	"testing"

	"landbridge/api"
)

// tell is the same of nil and of a list without entries.
func tell(s api.State) string { return fmt.Sprintf("%+v", s) }

// spoilState overwrites all that s reaches, spare room too, and tells whether any two lists of bytes in it share memory.
func spoilState(s api.State) bool {
	var pairs []api.Pair
	for _, c := range s.Clients[:cap(s.Clients)] {
		for _, k := range c.Known[:cap(c.Known)] {
			pairs = append(pairs, api.Pair{Key: k.Root, Val: k.Next})
		}
		clear(c.Known[:cap(c.Known)])
	}
	for _, l := range [][]api.Mark{s.Sent, s.Got, s.Acks} {
		for _, m := range l[:cap(l)] {
			pairs = append(pairs, api.Pair{Val: m.Digest})
		}
		clear(l[:cap(l)])
	}
	clear(s.Clients[:cap(s.Clients)])
	clear(s.Conns[:cap(s.Conns)])
	clear(s.Chans[:cap(s.Chans)])
	clear(s.Purses[:cap(s.Purses)])
	return spoil(pairs)
}

// Z2: copies are the same, and share no memory with what they are made of, with each other or within themselves.
func TestCopy(t *testing.T) {
	s, parts := roomy()
	_, before := roomy()
	want := tell(s)
	first, second := Copy(s), Copy(s)
	if tell(first) != want {
		t.Errorf("%v comes, not %v", first, s)
	}
	spoilState(first)
	if tell(second) != want {
		t.Error("two copies share memory")
	}
	if !reflect.DeepEqual(parts, before) {
		t.Error("an argument or its spare room has changed")
	}
	// One memory for all of them: a copy may not share even what its argument does.
	one := filled(9)
	for _, l := range [][]api.Mark{s.Sent, s.Got, s.Acks} {
		for i := range l {
			l[i].Digest = one
		}
	}
	if spoilState(Copy(s)) || !bytes.Equal(one, filled(9)) {
		t.Error("two lists of one copy share memory")
	}
}

// Z1 and Z3: a copy is made of what is wrong, too.
func TestCopyOfWhatever(t *testing.T) {
	for _, s := range []api.State{
		{},
		{Name: "é", Height: math.MinInt, Time: math.MaxInt, Clients: make([]api.Client, 9), Conns: make([]api.Conn, 9), Chans: make([]api.Chan, 9)},
		{Sent: make([]api.Mark, 99), Got: []api.Mark{}, Acks: []api.Mark{{Digest: []byte{}}}, Purses: make([]api.Purse, 99)},
	} {
		if got := Copy(s); tell(got) != tell(s) {
			t.Errorf("%v comes, not %v", got, s)
		}
	}
}

// H2: what other chains' connections are shown by.
func TestConnKeysAndVals(t *testing.T) {
	for _, n := range []int{0, 1, 7, 10, 1000000000000} {
		if got, want := string(ConnKey(n)), fmt.Sprintf("conn/%d", n); got != want {
			t.Errorf("%s comes, not %s", got, want)
		}
		for _, c := range []api.Conn{
			{State: api.CoInit, Client: n, OtherClient: 1, OtherConn: -1},
			{State: api.CoTry, Client: 2, OtherClient: n, OtherConn: 0},
			{State: api.CoOpen, Client: 3, OtherClient: 4, OtherConn: n},
		} {
			if got, want := string(ConnVal(c)), referenceNumbers(c.State, c.Client, c.OtherClient, c.OtherConn+1); got != want {
				t.Errorf("%v: %x comes, not %x", c, got, want)
			}
		}
	}
	// Z1: of whatever numbers.
	for _, n := range []int{math.MinInt, -1, math.MaxInt} {
		ConnKey(n)
		ConnVal(api.Conn{State: n, Client: n, OtherClient: n, OtherConn: n})
	}
}

// H2: what other chains' channels are shown by; the numbers of packets are no part of it.
func TestChanKeysAndVals(t *testing.T) {
	for _, n := range []int{0, 1, 7, 10, 1000000000000} {
		if got, want := string(ChanKey(n)), fmt.Sprintf("chan/%d", n); got != want {
			t.Errorf("%s comes, not %s", got, want)
		}
		for _, c := range []api.Chan{
			{State: api.ChInit, Conn: n, OtherChan: -1},
			{State: api.ChTry, Ordered: true, Conn: 2, OtherChan: n},
			{State: api.ChClosed, Conn: 3, OtherChan: 4, Send: n, Recv: n + 1, Ack: n + 2},
		} {
			ordered := map[bool]int{true: 1}[c.Ordered]
			if got, want := string(ChanVal(c)), referenceNumbers(c.State, ordered, c.Conn, c.OtherChan+1); got != want {
				t.Errorf("%v: %x comes, not %x", c, got, want)
			}
		}
	}
	// Z1: of whatever numbers.
	for _, n := range []int{math.MinInt, -1, math.MaxInt} {
		ChanKey(n)
		ChanVal(api.Chan{State: n, Conn: n, OtherChan: n})
	}
}

// H2: what other chains' packets, and what they receive next, are shown by.
func TestKeysOfPackets(t *testing.T) {
	for _, ch := range []int{0, 1, 7, 10, 1000000000000} {
		for _, seq := range []int{1, 2, 10, 300, 1000000000000} {
			for want, got := range map[string][]byte{
				fmt.Sprintf("sent/%d/%d", ch, seq): SentKey(ch, seq),
				fmt.Sprintf("got/%d/%d", ch, seq):  GotKey(ch, seq),
				fmt.Sprintf("ack/%d/%d", ch, seq):  AckKey(ch, seq),
				fmt.Sprintf("next/%d", ch):         NextKey(ch),
				referenceNumbers(seq):              NextVal(seq),
			} {
				if string(got) != want {
					t.Errorf("%q comes, not %q", got, want)
				}
			}
		}
	}
	// Z1: of whatever numbers.
	for _, n := range []int{math.MinInt, -1, math.MaxInt} {
		SentKey(n, n)
		GotKey(n, n)
		AckKey(n, n)
		NextKey(n)
		NextVal(n)
	}
}

// H1: by the channel, then the number, whatever the digest is.
func TestCompareMarks(t *testing.T) {
	rising := []api.Mark{{Chan: math.MinInt, Seq: 5}, {Chan: 0, Seq: 1}, {Chan: 0, Seq: 2}, {Chan: 0, Seq: 10}, {Chan: 1, Seq: math.MinInt}, {Chan: 1, Seq: 1}, {Chan: 2, Seq: 1}, {Chan: 10, Seq: 1}, {Chan: math.MaxInt, Seq: 4}}
	for i, a := range rising {
		for j, b := range rising {
			a.Digest, b.Digest = filled(byte(j)), filled(byte(i))
			got := CompareMarks(a, b)
			if (got < 0) != (i < j) || (got > 0) != (i > j) {
				t.Errorf("%v and %v: %d comes", a, b, got)
			}
		}
	}
}

// H1: by the owner, then what is owned, byte by byte, whatever the amount is.
func TestComparePurses(t *testing.T) {
	rising := []api.Purse{{}, {Denom: "z"}, {Owner: "#0", Denom: "gold"}, {Owner: "#10", Denom: "gold"}, {Owner: "#2", Denom: "gold"}, {Owner: "A", Denom: "z"}, {Owner: "a"}, {Owner: "a", Denom: "bc"}, {Owner: "a", Denom: "bcd"}, {Owner: "ab", Denom: "c"}, {Owner: "ab", Denom: "\xff"}, {Owner: "é", Denom: "a"}, {Owner: "\xff", Denom: "a"}}
	for i, a := range rising {
		for j, b := range rising {
			a.Amount, b.Amount = uint64(j), uint64(i)
			got := ComparePurses(a, b)
			if (got < 0) != (i < j) || (got > 0) != (i > j) {
				t.Errorf("%v and %v: %d comes", a, b, got)
			}
		}
	}
}

// H1
func TestIsWord(t *testing.T) {
	for n := range 100 {
		for _, c := range []string{"x", "\x00", "\xff", "/"} {
			if got := IsWord(strings.Repeat(c, n)); got != (n >= 1 && n <= 40) {
				t.Errorf("%d bytes: %v comes", n, got)
			}
		}
	}
}
