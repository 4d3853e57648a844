package state

import (
	"bytes"
	"crypto/sha256"
	"encoding/binary"
	"fmt"
	"maps"
	"math"
	"math/bits"
	"regexp"
	"slices"

	"landbridge/api"
	"landbridge/client"
)

func filled(b byte) []byte { return bytes.Repeat([]byte{b}, 32) }

func following(chain string) api.Client {
	return api.Client{Chain: chain, Trust: 9, Known: []api.Known{{Height: 1, Time: 1, Root: filled(1), Next: filled(2)}}}
}

// sample is a state with some of everything, nothing of it wrong.
func sample() api.State {
	return api.State{
		Name: "a", Height: 5, Time: 7,
		Clients: []api.Client{following("b"), following("c")},
		Conns: []api.Conn{
			{State: api.CoInit, Client: 0, OtherClient: 3, OtherConn: -1},
			{State: api.CoTry, Client: 1, OtherClient: 0, OtherConn: 0},
			{State: api.CoOpen, Client: 7, OtherClient: 2, OtherConn: 300},
		},
		Chans: []api.Chan{
			{State: api.ChOpen, Ordered: true, Conn: 1, OtherChan: 4, Send: 9, Recv: 300, Ack: 2},
			{State: api.ChInit, Conn: 0, OtherChan: -1, Send: 1, Recv: 1, Ack: 1},
			{State: api.ChClosed, Conn: 2, OtherChan: 0, Send: 4, Recv: 3, Ack: 2},
		},
		Sent: []api.Mark{{Chan: 0, Seq: 2, Digest: filled(3)}, {Chan: 0, Seq: 10, Digest: filled(4)}, {Chan: 1, Seq: 1, Digest: filled(5)}},
		Got:  []api.Mark{{Chan: 1, Seq: 7, Digest: filled(6)}, {Chan: 12, Seq: 7, Digest: filled(7)}},
		Acks: []api.Mark{{Chan: 1, Seq: 7, Digest: filled(8)}, {Chan: 1, Seq: 8, Digest: filled(8)}},
		Purses: []api.Purse{
			{Owner: "ann", Denom: "gold", Amount: 5},
			{Owner: "ann", Denom: "iron", Amount: 1},
			{Owner: "bob", Denom: "gold", Amount: math.MaxUint64},
		},
	}
}

// greatest has as much of everything as may be, all numbers as great as may be.
func greatest() api.State {
	top := api.MaxNum
	s := api.State{Name: "01234567890123456789", Height: top, Time: top}
	for range 4 {
		c := api.Client{Chain: "98765432109876543210", Trust: top}
		for i := range 30 {
			c.Known = append(c.Known, api.Known{Height: top - 29 + i, Time: top, Root: filled(255), Next: filled(255)})
		}
		s.Clients = append(s.Clients, c)
	}
	for range 8 {
		s.Conns = append(s.Conns, api.Conn{State: 3, Client: top, OtherClient: top, OtherConn: top})
		s.Chans = append(s.Chans, api.Chan{State: 4, Ordered: true, Conn: top, OtherChan: top, Send: top, Recv: top, Ack: top})
	}
	for i := range 50 {
		m := api.Mark{Chan: top, Seq: top - 49 + i, Digest: filled(byte(i))}
		s.Sent, s.Got, s.Acks = append(s.Sent, m), append(s.Got, m), append(s.Acks, m)
	}
	for i := range 60 {
		word := string(bytes.Repeat([]byte{byte(196 + i)}, 40))
		s.Purses = append(s.Purses, api.Purse{Owner: word, Denom: word, Amount: math.MaxUint64})
	}
	return s
}

// told is an error with whether it fits, in the order in which the chapter names them.
type told struct {
	err api.Errno
	is  bool
}

var nameForm = regexp.MustCompile(`\A[a-z0-9]{1,20}\z`)

func outside(low, n int) bool { return n < low || n > 1e12 }

// referenceWrong writes down all that might be wrong, and takes the first that is.
func referenceWrong(s api.State) api.Errno {
	all := []told{
		{api.ErrName, !nameForm.MatchString(s.Name)},
		{api.ErrRange, outside(0, s.Height) || outside(0, s.Time)},
	}
	for _, one := range [][2]int{{len(s.Clients), 4}, {len(s.Conns), 8}, {len(s.Chans), 8}, {len(s.Sent), 50}, {len(s.Got), 50}, {len(s.Acks), 50}, {len(s.Purses), 60}} {
		all = append(all, told{api.ErrMany, one[0] > one[1]})
	}
	for _, c := range s.Clients {
		err := client.Wrong(c)
		all = append(all, told{err, err != api.OK})
	}
	for _, c := range s.Conns {
		all = append(all,
			told{api.ErrKind, c.State != 1 && c.State != 2 && c.State != 3},
			told{api.ErrRange, outside(0, c.Client) || outside(0, c.OtherClient) || outside(-1, c.OtherConn)})
	}
	for _, c := range s.Chans {
		all = append(all,
			told{api.ErrKind, c.State != 1 && c.State != 2 && c.State != 3 && c.State != 4},
			told{api.ErrRange, outside(0, c.Conn) || outside(-1, c.OtherChan)},
			told{api.ErrRange, outside(1, c.Send) || outside(1, c.Recv) || outside(1, c.Ack)})
	}
	all = slices.Concat(all, referenceMarks(s.Sent), referenceMarks(s.Got), referenceMarks(s.Acks), referencePurses(s.Purses))
	for _, one := range all {
		if one.is {
			return one.err
		}
	}
	return api.OK
}

func referenceMarks(l []api.Mark) []told {
	var out []told
	for i, m := range l {
		out = append(out,
			told{api.ErrRange, outside(0, m.Chan) || outside(1, m.Seq)},
			told{api.ErrForm, len(m.Digest) != 32},
			told{api.ErrForm, i > 0 && (l[i-1].Chan > m.Chan || l[i-1].Chan == m.Chan && l[i-1].Seq >= m.Seq)})
	}
	return out
}

func referencePurses(l []api.Purse) []told {
	var out []told
	for i, p := range l {
		out = append(out,
			told{api.ErrMuch, p.Owner == "" || len(p.Owner) > 40 || p.Denom == "" || len(p.Denom) > 40},
			told{api.ErrRange, p.Amount < 1},
			told{api.ErrForm, i > 0 && (l[i-1].Owner > p.Owner || l[i-1].Owner == p.Owner && l[i-1].Denom >= p.Denom)})
	}
	return out
}

// referenceNumbers is what Write makes of numbers, by the library's numbers of the same form.
func referenceNumbers(l ...int) string {
	out := []byte{byte(len(l))}
	for _, n := range l {
		out = binary.AppendUvarint(append(out, 0), uint64(n))
	}
	return string(out)
}

// referenceBook keeps texts in a map, and sorts them at last.
func referenceBook(s api.State) []api.Pair {
	all := map[string]string{}
	for i, c := range s.Conns {
		all[fmt.Sprintf("conn/%d", i)] = referenceNumbers(c.State, c.Client, c.OtherClient, c.OtherConn+1)
	}
	for i, c := range s.Chans {
		all[fmt.Sprintf("chan/%d", i)] = referenceNumbers(c.State, map[bool]int{true: 1}[c.Ordered], c.Conn, c.OtherChan+1)
		all[fmt.Sprintf("next/%d", i)] = referenceNumbers(c.Recv)
	}
	for kind, l := range map[string][]api.Mark{"sent": s.Sent, "got": s.Got, "ack": s.Acks} {
		for _, m := range l {
			all[fmt.Sprintf("%s/%d/%d", kind, m.Chan, m.Seq)] = string(m.Digest)
		}
	}
	var out []api.Pair
	for _, key := range slices.Sorted(maps.Keys(all)) {
		out = append(out, api.Pair{Key: []byte(key), Val: []byte(all[key])})
	}
	return out
}

// referenceRoot is for books, by the library's digests.
func referenceRoot(l []api.Pair) []byte {
	first := binary.BigEndian.AppendUint32([]byte{2}, uint32(len(l)))
	out := sha256.Sum256(append(first, referenceTree(l)...))
	return out[:]
}

func referenceTree(l []api.Pair) []byte {
	var b []byte
	switch len(l) {
	case 0:
		return nil
	case 1:
		b = binary.BigEndian.AppendUint32([]byte{0}, uint32(len(l[0].Key)))
		b = slices.Concat(b, l[0].Key, l[0].Val)
	default:
		k := 1 << (bits.Len(uint(len(l)-1)) - 1)
		b = slices.Concat([]byte{1}, referenceTree(l[:k]), referenceTree(l[k:]))
	}
	out := sha256.Sum256(b)
	return out[:]
}

func samePair(a, b api.Pair) bool { return bytes.Equal(a.Key, b.Key) && bytes.Equal(a.Val, b.Val) }

func sameBook(a, b []api.Pair) bool { return slices.EqualFunc(a, b, samePair) }

// invented is a state of what comes by chance, some of it at the edges, seldom beyond: pick answers a number from 0 on, below n.
func invented(pick func(n int) int) api.State {
	number := func(low int) int {
		switch pick(40) {
		case 0:
			return low - 1
		case 1:
			return api.MaxNum
		case 2:
			return api.MaxNum + pick(2)
		case 3:
			return low
		}
		return low + pick(300)
	}
	kind := func(most int) int {
		if pick(60) == 0 {
			return pick(7) - 1
		}
		return 1 + pick(most)
	}
	few := func(most int) int {
		switch pick(30) {
		case 0:
			return most + pick(2)
		case 1:
			return 0
		}
		return pick(min(most, 5))
	}
	s := api.State{Name: "a", Height: number(0), Time: number(0)}
	if pick(50) == 0 {
		s.Name = []string{"", "A", "a/b", "012345678901234567890"}[pick(4)]
	}
	for range few(4) {
		c := following("b")
		c.Trust = number(1)
		s.Clients = append(s.Clients, c)
	}
	for range few(8) {
		s.Conns = append(s.Conns, api.Conn{State: kind(3), Client: number(0), OtherClient: number(0), OtherConn: number(-1)})
	}
	for range few(8) {
		s.Chans = append(s.Chans, api.Chan{State: kind(4), Ordered: pick(2) > 0, Conn: number(0), OtherChan: number(-1), Send: number(1), Recv: number(1), Ack: number(1)})
	}
	s.Sent, s.Got, s.Acks = inventedMarks(pick, few(50)), inventedMarks(pick, few(50)), inventedMarks(pick, few(50))
	s.Purses = inventedPurses(pick, few(60))
	return s
}

func inventedMarks(pick func(n int) int, count int) []api.Mark {
	var out []api.Mark
	ch, seq := pick(20), 1
	for range count {
		out = append(out, api.Mark{Chan: ch, Seq: seq, Digest: filled(byte(pick(256)))})
		switch pick(30) {
		case 0:
			seq -= pick(2)
		case 1:
			ch -= pick(2)
		case 2:
			out[len(out)-1].Digest = make([]byte, 31+pick(3))
		case 3, 4, 5:
			ch, seq = ch+1, 1+pick(3)
		default:
			seq += 1 + pick(12)
		}
	}
	return out
}

func inventedPurses(pick func(n int) int, count int) []api.Purse {
	var out []api.Purse
	owner, denom := "a", "x"
	for range count {
		out = append(out, api.Purse{Owner: owner, Denom: denom, Amount: 1 + uint64(pick(9))})
		switch pick(30) {
		case 0:
			out[len(out)-1].Amount = 0
		case 1:
			owner = owner[:len(owner)-min(len(owner), pick(2))]
		case 2:
			denom = string([]byte{byte(pick(256))})
		case 3, 4, 5:
			owner += string([]byte{byte(pick(256))})
		default:
			denom += string([]byte{byte(pick(256))})
		}
	}
	return out
}
