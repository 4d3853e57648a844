package bridge

import (
	"landbridge/api"
	"landbridge/proof"
	"landbridge/state"
)

// none is the number of what is not there.
const none = -1

// evidence answers a message with what a block of the other chain tells of what it must be shown.
type evidence func(b block, m api.Msg) api.Msg

// carried answers m to a chain that stands as s, with what can be shown of the other chain's blocks in the place of what m shows.
func carried(m api.Msg, s api.State, theirs []block) api.Msg {
	m.Shown = api.Shown{}
	over, tell := asked(m, s)
	height, known := lastKnown(s, over)
	// A client may know heights that no block has: nothing keeps it from following another chain than this one.
	if !known || height > len(theirs) {
		return m
	}
	m.Shown.Height = height
	return tell(theirs[height-1], m)
}

// asked answers over which client m goes, and what it must be shown; none, if the end is not there, or nothing must be shown.
func asked(m api.Msg, s api.State) (int, evidence) {
	p := m.Packet
	switch m.Kind {
	case api.MsgConnTry:
		return m.Client, stands(state.ConnKey(m.OtherEnd))
	case api.MsgConnAck:
		return connOf(s, m.End).Client, stands(state.ConnKey(m.OtherEnd))
	case api.MsgConnDone:
		own := connOf(s, m.End)
		return own.Client, stands(state.ConnKey(own.OtherConn))
	case api.MsgChanTry:
		return connOf(s, m.End).Client, stands(state.ChanKey(m.OtherEnd))
	case api.MsgChanAck:
		return clientOf(s, chanOf(s, m.End)), stands(state.ChanKey(m.OtherEnd))
	case api.MsgChanDone, api.MsgClosed:
		own := chanOf(s, m.End)
		return clientOf(s, own), stands(state.ChanKey(own.OtherChan))
	case api.MsgRecv:
		return clientOf(s, chanOf(s, p.To)), stands(state.SentKey(p.From, p.Seq))
	case api.MsgAck:
		return clientOf(s, chanOf(s, p.From)), stands(state.AckKey(p.To, p.Seq))
	case api.MsgLate:
		own := chanOf(s, p.From)
		return clientOf(s, own), isLate(own, p)
	}
	return none, nil
}

// stands is the evidence of what stands under key; of nothing there is none.
func stands(key []byte) evidence {
	return func(b block, m api.Msg) api.Msg {
		m.Shown.Proof, _ = proof.Show(b.book(), key)
		return m
	}
}

// isMissing is the evidence that nothing stands under key; of something there is none.
func isMissing(key []byte) evidence {
	return func(b block, m api.Msg) api.Msg {
		m.Shown.Gap, _ = proof.ShowGap(b.book(), key)
		return m
	}
}

// isLate is the evidence that p, which own sent, was not received: in order by what is received next.
func isLate(own api.Chan, p api.Packet) evidence {
	if !own.Ordered {
		return isMissing(state.GotKey(p.To, p.Seq))
	}
	next := stands(state.NextKey(p.To))
	return func(b block, m api.Msg) api.Msg {
		if isPlace(b.state.Chans, p.To) {
			m.Next = b.state.Chans[p.To].Recv
		}
		return next(b, m)
	}
}

// book answers what can be shown of b: there is no error, as its state was not wrong when it ended.
func (b block) book() []api.Pair {
	l, _ := state.Book(b.state)
	return l
}

// connOf answers connection i of s; if it is not there, one over no client.
func connOf(s api.State, i int) api.Conn {
	if !isPlace(s.Conns, i) {
		return api.Conn{Client: none}
	}
	return s.Conns[i]
}

// chanOf answers channel i of s; if it is not there, one over no connection.
func chanOf(s api.State, i int) api.Chan {
	if !isPlace(s.Chans, i) {
		return api.Chan{Conn: none}
	}
	return s.Chans[i]
}

// clientOf answers over which client c goes.
func clientOf(s api.State, c api.Chan) int { return connOf(s, c.Conn).Client }

func isPlace[T any](l []T, i int) bool { return i >= 0 && i < len(l) }
