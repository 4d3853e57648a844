package state

import (
	"bytes"
	"reflect"
	"slices"
	"sync"
	"testing"

	"landbridge/api"
)

// withRoom answers l with one behind it, and all of it.
func withRoom[T any](l []T, behind T) (own, all []T) {
	all = append(slices.Clone(l), behind)
	return all[:len(l):len(all)], all
}

// roomy answers the sample with something behind each list, and all that it is made of.
func roomy() (api.State, []any) {
	s := sample()
	var parts []any
	text := func(b []byte) []byte {
		own, all := withRoom(b, 77)
		parts = append(parts, all)
		return own
	}
	marks := func(l []api.Mark) []api.Mark {
		for i := range l {
			l[i].Digest = text(l[i].Digest)
		}
		own, all := withRoom(l, api.Mark{Chan: -1})
		parts = append(parts, all)
		return own
	}
	for i := range s.Clients {
		known, all := withRoom(s.Clients[i].Known, api.Known{Height: -1})
		known[0].Root, known[0].Next = text(known[0].Root), text(known[0].Next)
		s.Clients[i].Known = known
		parts = append(parts, all)
	}
	s.Sent, s.Got, s.Acks = marks(s.Sent), marks(s.Got), marks(s.Acks)
	clients, allClients := withRoom(s.Clients, api.Client{Trust: -1})
	conns, allConns := withRoom(s.Conns, api.Conn{State: -1})
	chans, allChans := withRoom(s.Chans, api.Chan{State: -1})
	purses, allPurses := withRoom(s.Purses, api.Purse{})
	s.Clients, s.Conns, s.Chans, s.Purses = clients, conns, chans, purses
	return s, append(parts, allClients, allConns, allChans, allPurses)
}

// Z2: neither what is handed in nor the room behind it is changed, and that room means nothing.
func TestArgumentsAreOnlyRead(t *testing.T) {
	s, parts := roomy()
	_, before := roomy()
	check(t, "with room behind", s, api.OK)
	checkBook(t, "with room behind", s, referenceBook(sample()))
	if !reflect.DeepEqual(parts, before) {
		t.Error("an argument or its spare room has changed")
	}
	s, parts = roomy()
	_, before = roomy()
	s.Purses[2].Amount = 0
	before[len(before)-1].([]api.Purse)[2].Amount = 0
	check(t, "wrong, with room behind", s, api.ErrRange)
	if !reflect.DeepEqual(parts, before) {
		t.Error("an argument or its spare room has changed")
	}
}

// spoil overwrites all of a book, spare room too, with unlike things, and tells whether any two lists of it share memory.
func spoil(l []api.Pair) bool {
	l = l[:cap(l)]
	var lists [][]byte
	for _, p := range l {
		lists = append(lists, p.Key[:cap(p.Key)], p.Val[:cap(p.Val)])
	}
	for i, list := range lists {
		for at := range list {
			list[at] = byte(i)
		}
	}
	shared := false
	for i, list := range lists {
		for _, b := range list {
			shared = shared || b != byte(i)
		}
	}
	clear(l)
	return shared
}

// Z2: answers share no memory with arguments, with other answers or within themselves, spare room included; nothing of what was handed in is kept.
func TestAnswersAreNewMemory(t *testing.T) {
	s := sample()
	// One memory for all digests: an answer may not share even what its argument does.
	one := filled(9)
	for _, l := range [][]api.Mark{s.Sent, s.Got, s.Acks} {
		for i := range l {
			l[i].Digest = one
		}
	}
	want := referenceBook(s)
	first, _ := Book(s)
	second, _ := Book(s)
	root, _ := Root(s)
	if spoil(first) {
		t.Error("two lists of one answer share memory")
	}
	if !sameBook(second, want) || !bytes.Equal(one, filled(9)) {
		t.Error("an answer is shared")
	}
	clear(root[:cap(root)])
	if third, err := Root(s); err != api.OK || !bytes.Equal(third, referenceRoot(want)) {
		t.Errorf("an answer is kept: %x comes", third)
	}
	clear(one)
	clear(s.Conns)
	clear(s.Chans)
	clear(s.Sent)
	if !sameBook(second, want) {
		t.Error("an answer hangs on what was handed in")
	}
	checkBook(t, "another one, later", sample(), referenceBook(sample()))
}

// Z3
func TestNilAndEmptyAreTheSame(t *testing.T) {
	empty := api.State{
		Name: "z", Clients: []api.Client{}, Conns: []api.Conn{}, Chans: []api.Chan{},
		Sent: []api.Mark{}, Got: []api.Mark{}, Acks: []api.Mark{}, Purses: []api.Purse{},
	}
	for _, s := range []api.State{{Name: "z"}, empty} {
		check(t, "without entries", s, api.OK)
		checkBook(t, "without entries", s, nil)
	}
	for _, d := range [][]byte{nil, {}} {
		check(t, "no digest", api.State{Name: "z", Got: []api.Mark{{Seq: 1, Digest: d}}}, api.ErrForm)
	}
	for _, l := range [][]api.Known{nil, {}} {
		check(t, "nothing is known", api.State{Name: "z", Clients: []api.Client{{Chain: "b", Trust: 1, Known: l}}}, api.ErrMany)
	}
}

// Z1: the same answer each time, and calls that run side by side don't disturb each other.
func TestCallsSideBySide(t *testing.T) {
	s, full := sample(), greatest()
	want, wantFull := referenceBook(s), referenceBook(full)
	var all sync.WaitGroup
	for range 8 {
		all.Go(func() {
			for range 20 {
				l, err := Book(s)
				lFull, errFull := Book(full)
				root, errRoot := Root(s)
				if err != api.OK || errFull != api.OK || errRoot != api.OK || !sameBook(l, want) || !sameBook(lFull, wantFull) || !bytes.Equal(root, referenceRoot(want)) {
					t.Error("another answer")
					return
				}
			}
		})
	}
	all.Wait()
}

// FuzzBook holds Wrong, Book and Root against the reference, of states that bytes tell of.
func FuzzBook(f *testing.F) {
	f.Add([]byte{})
	f.Add([]byte("a chain with this and that"))
	f.Add(bytes.Repeat([]byte{7, 0, 200, 31}, 100))
	f.Fuzz(func(t *testing.T, b []byte) {
		pick := func(n int) int {
			if len(b) == 0 {
				return n - 1
			}
			out := int(b[0]) % n
			b = b[1:]
			return out
		}
		checkInvented(t, invented(pick))
	})
}
