package state

import (
	"strconv"

	"landbridge/api"
	"landbridge/book"
	"landbridge/wire"
)

// Book answers what of s can be shown to others.
func Book(s api.State) ([]api.Pair, api.Errno) {
	if err := Wrong(s); err != api.OK {
		return nil, err
	}
	// The fault is none: what is not wrong is less than a book holds, and its keys and numbers are short.
	l, f := book.Play(entries(s))
	return l, f.Err
}

// Root answers the digest of what of s can be shown to others.
func Root(s api.State) ([]byte, api.Errno) {
	l, err := Book(s)
	if err != api.OK {
		return nil, err
	}
	root, f := book.Root(l)
	return root, f.Err
}

// entries answers what makes the book of s; digests in it are still the memory of s.
func entries(s api.State) []api.Doing {
	var out []api.Doing
	put := func(key, val []byte) { out = append(out, api.Doing{Key: key, Val: val}) }
	putMarks := func(key func(ch, seq int) []byte, l []api.Mark) {
		for _, m := range l {
			put(key(m.Chan, m.Seq), m.Digest)
		}
	}
	for i, c := range s.Conns {
		put(ConnKey(i), ConnVal(c))
	}
	for i, c := range s.Chans {
		put(ChanKey(i), ChanVal(c))
		put(NextKey(i), NextVal(c.Recv))
	}
	putMarks(SentKey, s.Sent)
	putMarks(GotKey, s.Got)
	putMarks(AckKey, s.Acks)
	return out
}

// keyOf answers under what stands what is of that kind and has these numbers.
func keyOf(kind string, l ...int) []byte {
	out := []byte(kind)
	for _, n := range l {
		out = strconv.AppendInt(append(out, '/'), int64(n), 10)
	}
	return out
}

// ConnKey answers under what a connection with that number stands: on this chain, or on another one that is to be shown.
func ConnKey(n int) []byte { return keyOf("conn", n) }

// ConnVal answers what stands there of c. The other end's number may be -1, and what is written has no sign: hence one more.
func ConnVal(c api.Conn) []byte {
	return numbers(c.State, c.Client, c.OtherClient, c.OtherConn+1)
}

// ChanKey answers under what a channel with that number stands: on this chain, or on another one that is to be shown.
func ChanKey(n int) []byte { return keyOf("chan", n) }

// ChanVal answers what stands there of c, with the other end's number one more, as ConnVal has it; what is received next stands elsewhere.
func ChanVal(c api.Chan) []byte {
	ordered := 0
	if c.Ordered {
		ordered = 1
	}
	return numbers(c.State, ordered, c.Conn, c.OtherChan+1)
}

// NextKey answers under what it stands which packet a channel with that number receives next.
func NextKey(n int) []byte { return keyOf("next", n) }

// NextVal answers what stands there.
func NextVal(recv int) []byte { return numbers(recv) }

// SentKey answers under what the digest of a packet stands that was sent over a channel, and not yet settled.
func SentKey(ch, seq int) []byte { return keyOf("sent", ch, seq) }

// GotKey answers under what the digest of a packet stands that was received over a channel that is not ordered.
func GotKey(ch, seq int) []byte { return keyOf("got", ch, seq) }

// AckKey answers under what the digest of the answer to a packet stands that was received over a channel.
func AckKey(ch, seq int) []byte { return keyOf("ack", ch, seq) }

// numbers is for a few that are not below 0: what is written of them is never too much.
func numbers(l ...int) []byte {
	pieces := make([]api.Piece, len(l))
	for i, n := range l {
		pieces[i] = api.Piece{Kind: api.PNum, N: uint64(n)}
	}
	out, _ := wire.Write(pieces)
	return out
}
