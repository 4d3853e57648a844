package packet

import (
	"bytes"
	"slices"

	"landbridge/api"
	"landbridge/client"
	"landbridge/sha"
	"landbridge/state"
)

// Ack answers s with p settled, once it is shown that the other chain has received it, and answered ack.
func Ack(s api.State, p api.Packet, ack []byte, w api.Shown) (api.State, api.Errno) {
	own, err := senderOf(s, p)
	if err != api.OK {
		return api.State{}, err
	}
	if err := doubtsOfAck(s, own, p, ack, w); err != api.OK {
		return api.State{}, err
	}
	s = settled(s, p)
	if own.Ordered {
		s.Chans[p.From].Ack++
	}
	return s, api.OK
}

// Timeout answers s with p settled, once it is shown that the other chain has not received it in time; in order by what that one receives next.
func Timeout(s api.State, p api.Packet, next int, w api.Shown) (api.State, api.Errno) {
	own, err := senderOf(s, p)
	if err != api.OK {
		return api.State{}, err
	}
	if err := doubtsOfTimeout(s, own, p, next, w); err != api.OK {
		return api.State{}, err
	}
	s = settled(s, p)
	if own.Ordered {
		s.Chans[p.From].State = api.ChClosed
	}
	return s, api.OK
}

// senderOf answers the end that p comes from, or what keeps it from having sent p, and waiting for what comes of it.
func senderOf(s api.State, p api.Packet) (end, api.Errno) {
	if err := Wrong(p); err != api.OK {
		return end{}, err
	}
	own, err := endOf(s, p.From, api.ChOpen, api.ChClosed)
	switch {
	case err != api.OK:
		return end{}, err
	case own.OtherChan != p.To:
		return end{}, api.ErrFit
	}
	place, there := find(s.Sent, p.From, p.Seq)
	switch {
	case !there:
		return end{}, api.ErrNone
	case !bytes.Equal(s.Sent[place].Digest, Digest(p)):
		return end{}, api.ErrFit
	}
	return own, api.OK
}

// doubtsOfAck answers what keeps w from showing to own that p was received, and answered by ack, if anything does.
func doubtsOfAck(s api.State, own end, p api.Packet, ack []byte, w api.Shown) api.Errno {
	switch {
	case len(ack) > api.MaxData:
		return api.ErrMuch
	case own.Ordered && p.Seq != own.Ack:
		return api.ErrState
	case own.Ordered && own.Ack >= api.MaxNum:
		return api.ErrMany
	}
	return client.Member(own.follower, s.Time, w.Height, state.AckKey(p.To, p.Seq), sha.Sum(ack), w.Proof)
}

// doubtsOfTimeout answers what keeps w from showing to own that p was not received in time, if anything does.
func doubtsOfTimeout(s api.State, own end, p api.Packet, next int, w api.Shown) api.Errno {
	switch {
	case w.Height < p.Timeout:
		return api.ErrTime
	case !own.Ordered:
		return client.Missing(own.follower, s.Time, w.Height, state.GotKey(p.To, p.Seq), w.Gap)
	case next < 1 || next > p.Seq:
		return api.ErrState
	}
	return client.Member(own.follower, s.Time, w.Height, state.NextKey(p.To), state.NextVal(next), w.Proof)
}

// settled answers s without the mark of p.
func settled(s api.State, p api.Packet) api.State {
	s = state.Copy(s)
	if place, there := find(s.Sent, p.From, p.Seq); there {
		s.Sent = slices.Delete(s.Sent, place, place+1)
	}
	return s
}
