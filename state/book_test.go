package state

import (
	"bytes"
	"fmt"
	"slices"
	"strings"
	"testing"

	"landbridge/api"
	"landbridge/book"
	"landbridge/client"
	"landbridge/proof"
	"landbridge/wire"
)

// checkBook is for states that are not wrong.
func checkBook(t *testing.T, name string, s api.State, want []api.Pair) {
	t.Helper()
	l, err := Book(s)
	if err != api.OK || !sameBook(l, want) {
		t.Errorf("%s: %v and %d come, not %v", name, l, err, want)
	}
	if !sameBook(want, referenceBook(s)) {
		t.Errorf("%s: the reference answers otherwise", name)
	}
	if f := book.Wrong(l); f != (api.Fault{}) {
		t.Errorf("%s: it is no book: %v", name, f)
	}
	d, err := Root(s)
	if err != api.OK || !bytes.Equal(d, referenceRoot(want)) {
		t.Errorf("%s: as the root %x and %d come", name, d, err)
	}
}

func pair(key string, val ...byte) api.Pair { return api.Pair{Key: []byte(key), Val: val} }

// H2: the document's example first.
func TestTheFirstConnection(t *testing.T) {
	s := api.State{Name: "a", Conns: []api.Conn{{State: api.CoInit, Client: 0, OtherClient: 3, OtherConn: -1}}}
	checkBook(t, "one connection", s, []api.Pair{pair("conn/0", 4, 0, 1, 0, 0, 0, 3, 0, 0)})
	s.Conns[0] = api.Conn{State: api.CoOpen, Client: 2, OtherClient: 300, OtherConn: 127}
	checkBook(t, "an open one", s, []api.Pair{pair("conn/0", 4, 0, 3, 0, 2, 0, 0xAC, 2, 0, 0x80, 1)})
}

// H2
func TestTheFirstChannel(t *testing.T) {
	s := api.State{Name: "a", Chans: []api.Chan{{State: api.ChInit, OtherChan: -1, Send: 5, Recv: 1, Ack: 7}}}
	checkBook(t, "one channel", s, []api.Pair{pair("chan/0", 4, 0, 1, 0, 0, 0, 0, 0, 0), pair("next/0", 1, 0, 1)})
	s.Chans[0] = api.Chan{State: api.ChClosed, Ordered: true, Conn: 6, OtherChan: 0, Send: 5, Recv: 300, Ack: 7}
	checkBook(t, "an ordered one", s, []api.Pair{pair("chan/0", 4, 0, 4, 0, 1, 0, 6, 0, 1), pair("next/0", 1, 0, 0xAC, 2)})
}

// H2: keys stand byte by byte, digit by digit.
func TestBookOfTheSample(t *testing.T) {
	checkBook(t, "the sample", sample(), []api.Pair{
		pair("ack/1/7", filled(8)...),
		pair("ack/1/8", filled(8)...),
		pair("chan/0", 4, 0, 3, 0, 1, 0, 1, 0, 5),
		pair("chan/1", 4, 0, 1, 0, 0, 0, 0, 0, 0),
		pair("chan/2", 4, 0, 4, 0, 0, 0, 2, 0, 1),
		pair("conn/0", 4, 0, 1, 0, 0, 0, 3, 0, 0),
		pair("conn/1", 4, 0, 2, 0, 1, 0, 0, 0, 1),
		pair("conn/2", 4, 0, 3, 0, 7, 0, 2, 0, 0xAD, 2),
		pair("got/1/7", filled(6)...),
		pair("got/12/7", filled(7)...),
		pair("next/0", 1, 0, 0xAC, 2),
		pair("next/1", 1, 0, 1),
		pair("next/2", 1, 0, 3),
		pair("sent/0/10", filled(4)...),
		pair("sent/0/2", filled(3)...),
		pair("sent/1/1", filled(5)...),
	})
}

// H2: nothing is there to be shown.
func TestBookOfNothing(t *testing.T) {
	s := api.State{Name: "z", Height: 9, Time: 9, Clients: sample().Clients, Purses: sample().Purses}
	checkBook(t, "nothing to be shown", s, nil)
	empty, _ := book.Root(nil)
	if d, err := Root(s); err != api.OK || !bytes.Equal(d, empty) {
		t.Errorf("%x and %d come", d, err)
	}
}

// H2: the greatest state makes a book; of 174 pairs.
func TestBookOfTheGreatest(t *testing.T) {
	s := greatest()
	want := referenceBook(s)
	checkBook(t, "the greatest", s, want)
	if len(want) != 8+8+8+3*50 {
		t.Errorf("there are %d pairs", len(want))
	}
	l, _ := Book(s)
	for _, key := range []string{"conn/7", "chan/7", "next/7", "sent/1000000000000/1000000000000", "got/1000000000000/999999999951", "ack/1000000000000/999999999999"} {
		if _, there := book.Get(l, []byte(key)); !there {
			t.Errorf("%s does not stand there", key)
		}
	}
	for i, m := range s.Sent {
		if v, _ := book.Get(l, fmt.Appendf(nil, "sent/%d/%d", m.Chan, m.Seq)); !bytes.Equal(v, filled(byte(i))) {
			t.Errorf("%d: %x stands there", i, v)
		}
	}
}

// H2: each field that is shown changes what stands under just one key.
func TestWhatIsShown(t *testing.T) {
	before := referenceBook(sample())
	for key, changes := range map[string][]func(s *api.State){
		"conn/1": {
			func(s *api.State) { s.Conns[1].State = 1 },
			func(s *api.State) { s.Conns[1].Client++ },
			func(s *api.State) { s.Conns[1].OtherClient++ },
			func(s *api.State) { s.Conns[1].OtherConn-- },
		},
		"chan/2": {
			func(s *api.State) { s.Chans[2].State = 3 },
			func(s *api.State) { s.Chans[2].Ordered = true },
			func(s *api.State) { s.Chans[2].Conn++ },
			func(s *api.State) { s.Chans[2].OtherChan-- },
		},
		"next/2":    {func(s *api.State) { s.Chans[2].Recv++ }},
		"sent/0/10": {func(s *api.State) { s.Sent[1].Digest[31]++ }},
		"got/12/7":  {func(s *api.State) { s.Got[1].Digest[0]++ }},
		"ack/1/8":   {func(s *api.State) { s.Acks[1].Digest[7]++ }},
	} {
		for i, change := range changes {
			s := changed(change)
			l, err := Book(s)
			if err != api.OK || len(l) != len(before) {
				t.Fatalf("%s: %v and %d come", key, l, err)
			}
			for at, p := range l {
				if samePair(p, before[at]) == (string(p.Key) == key) {
					t.Errorf("%s, %d: %v stands there", key, i, p)
				}
			}
			checkBook(t, key, s, referenceBook(s))
		}
	}
}

// H2: the name, times, clients, purses, and what is sent or acknowledged next are not shown.
func TestWhatIsNotShown(t *testing.T) {
	want := referenceBook(sample())
	for name, change := range map[string]func(s *api.State){
		"the name":                  func(s *api.State) { s.Name = "b" },
		"the height":                func(s *api.State) { s.Height++ },
		"the time":                  func(s *api.State) { s.Time++ },
		"no clients":                func(s *api.State) { s.Clients = nil },
		"a client that is frozen":   func(s *api.State) { s.Clients[0].Frozen = true },
		"what is sent next":         func(s *api.State) { s.Chans[0].Send++ },
		"what is acknowledged next": func(s *api.State) { s.Chans[0].Ack++ },
		"no purses":                 func(s *api.State) { s.Purses = nil },
		"an amount":                 func(s *api.State) { s.Purses[0].Amount++ },
	} {
		checkBook(t, name, changed(change), want)
	}
}

// H2: what is one kind's is not another one's.
func TestKindsOfMarksAreUnlike(t *testing.T) {
	for kind, of := range kindsOfMarks {
		s := api.State{Name: "z"}
		*of(&s) = []api.Mark{{Chan: 0, Seq: 1, Digest: filled(7)}}
		key := map[string]string{"sent": "sent/0/1", "got": "got/0/1", "acks": "ack/0/1"}[kind]
		checkBook(t, kind, s, []api.Pair{pair(key, filled(7)...)})
	}
}

// H2: what stands in the book can be read back, by keys and by Read.
func TestBooksCanBeRead(t *testing.T) {
	s := sample()
	l, _ := Book(s)
	for _, p := range l {
		kind, _, _ := strings.Cut(string(p.Key), "/")
		count := map[string]int{"conn": 4, "chan": 4, "next": 1}[kind]
		if count == 0 {
			continue
		}
		pieces, err := wire.Read(p.Val)
		other := slices.IndexFunc(pieces, func(x api.Piece) bool { return x.Kind != api.PNum })
		if err != api.OK || len(pieces) != count || other >= 0 {
			t.Errorf("%s: %v and %d come", p.Key, pieces, err)
		}
	}
}

// H2: who knows the root is shown what stands in the book, and what does not.
func TestBooksCanBeShown(t *testing.T) {
	s := sample()
	l, _ := Book(s)
	root, _ := Root(s)
	c := following("a")
	c.Known[0].Root = root
	for _, p := range l {
		shown, err := proof.Show(l, p.Key)
		if err != api.OK || client.Member(c, 5, 1, p.Key, p.Val, shown) != api.OK {
			t.Errorf("%s is not shown", p.Key)
		}
	}
	for _, key := range []string{"", "conn", "conn/", "conn/3", "conn/00", "chan/3", "next/3", "sent/0/1", "sent/0", "got/1/8", "ack/1/9", "z"} {
		gap, err := proof.ShowGap(l, []byte(key))
		if err != api.OK || client.Missing(c, 5, 1, []byte(key), gap) != api.OK {
			t.Errorf("that %s is missing is not shown", key)
		}
	}
}
