package state

import (
	"strconv"

	"landbridge/api"
	"landbridge/book"
	"landbridge/wire"
)

// Book answers what of s can be shown to others.
func Book(s api.State) ([]api.Pair, api.Errno) {
	if err := Wrong(s); err != api.OK {
		return nil, err
	}
	// The fault is none: what is not wrong is less than a book holds, and its keys and numbers are short.
	l, f := book.Play(entries(s))
	return l, f.Err
}

// Root answers the digest of what of s can be shown to others.
func Root(s api.State) ([]byte, api.Errno) {
	l, err := Book(s)
	if err != api.OK {
		return nil, err
	}
	root, f := book.Root(l)
	return root, f.Err
}

// entries answers what makes the book of s; digests in it are still the memory of s.
func entries(s api.State) []api.Doing {
	var out []api.Doing
	put := func(key, val []byte) { out = append(out, api.Doing{Key: key, Val: val}) }
	putMarks := func(kind string, l []api.Mark) {
		for _, m := range l {
			put(keyOf(kind, m.Chan, m.Seq), m.Digest)
		}
	}
	for i, c := range s.Conns {
		put(ConnKey(i), ConnVal(c))
	}
	for i, c := range s.Chans {
		put(ChanKey(i), ChanVal(c))
		put(keyOf("next", i), numbers(c.Recv))
	}
	putMarks("sent", s.Sent)
	putMarks("got", s.Got)
	putMarks("ack", s.Acks)
	return out
}

// keyOf answers under what stands what is of that kind and has these numbers.
func keyOf(kind string, l ...int) []byte {
	out := []byte(kind)
	for _, n := range l {
		out = strconv.AppendInt(append(out, '/'), int64(n), 10)
	}
	return out
}

// ConnKey answers under what a connection with that number stands: on this chain, or on another one that is to be shown.
func ConnKey(n int) []byte { return keyOf("conn", n) }

// ConnVal answers what stands there of c. The other end's number may be -1, and what is written has no sign: hence one more.
func ConnVal(c api.Conn) []byte {
	return numbers(c.State, c.Client, c.OtherClient, c.OtherConn+1)
}

// ChanKey answers under what a channel with that number stands: on this chain, or on another one that is to be shown.
func ChanKey(n int) []byte { return keyOf("chan", n) }

// ChanVal answers what stands there of c, with the other end's number one more, as ConnVal has it; what is received next stands elsewhere.
func ChanVal(c api.Chan) []byte {
	ordered := 0
	if c.Ordered {
		ordered = 1
	}
	return numbers(c.State, ordered, c.Conn, c.OtherChan+1)
}

// numbers is for a few that are not below 0: what is written of them is never too much.
func numbers(l ...int) []byte {
	pieces := make([]api.Piece, len(l))
	for i, n := range l {
		pieces[i] = api.Piece{Kind: api.PNum, N: uint64(n)}
	}
	out, _ := wire.Write(pieces)
	return out
}
