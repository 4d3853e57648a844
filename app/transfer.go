package app

import (
	"slices"

	"landbridge/api"
	"landbridge/bank"
	"landbridge/packet"
	"landbridge/state"
)

// send answers s with a transfer on its way, and the packet that carries it: what it carries has left its sender.
func send(s api.State, m api.Msg) (api.State, api.Packet, api.Errno) {
	t := m.Transfer
	if err := doubtsOfTransfer(t, t.Sender); err != api.OK {
		return api.State{}, api.Packet{}, err
	}
	s, p, err := packet.Send(s, m.End, bank.Bytes(t), m.Timeout)
	if err != api.OK {
		return api.State{}, api.Packet{}, err
	}
	if s.Purses, err = bank.Leave(s.Purses, m.End, t); err != api.OK {
		return api.State{}, api.Packet{}, err
	}
	return s, p, api.OK
}

// receive answers s with what a packet brought, and its answer; what can't come is received, too, and refused.
func receive(s api.State, m api.Msg) (api.State, api.Errno) {
	purses, refusal := come(s.Purses, m.Packet)
	if refusal != api.OK {
		return packet.Recv(s, m.Packet, []byte{api.AckRefused}, m.Shown)
	}
	s.Purses = purses
	return packet.Recv(s, m.Packet, []byte{api.AckDone}, m.Shown)
}

// come answers l with what p carries in its reader's purse, or what keeps it from coming there.
func come(l []api.Purse, p api.Packet) ([]api.Purse, api.Errno) {
	t, err := bank.Parse(p.Data)
	switch {
	case err != api.OK:
		return nil, err
	case bank.BeginsAsSafe(t.Reader):
		return nil, api.ErrName
	}
	return bank.Come(l, p.To, p.From, t)
}

// acknowledge answers s with a packet settled that was received: what was refused comes back.
func acknowledge(s api.State, m api.Msg) (api.State, api.Errno) {
	s, err := packet.Ack(s, m.Packet, m.Ack, m.Shown)
	if err != api.OK || !slices.Equal(m.Ack, []byte{api.AckRefused}) {
		return s, err
	}
	return back(s, m.Packet)
}

// expire answers s with a packet settled that was not received in time: what it carried comes back.
func expire(s api.State, m api.Msg) (api.State, api.Errno) {
	s, err := packet.Timeout(s, m.Packet, m.Next, m.Shown)
	if err != api.OK {
		return s, err
	}
	return back(s, m.Packet)
}

// back answers s with what p carried in its sender's purse again; what is no transfer carried nothing.
func back(s api.State, p api.Packet) (api.State, api.Errno) {
	t, err := bank.Parse(p.Data)
	if err != api.OK {
		return s, api.OK
	}
	if s.Purses, err = bank.Back(s.Purses, p.From, t); err != api.OK {
		return api.State{}, err
	}
	return s, api.OK
}

// give answers s with a transfer made, within the chain.
func give(s api.State, m api.Msg) (api.State, api.Errno) {
	t := m.Transfer
	if err := doubtsOfTransfer(t, t.Sender, t.Reader); err != api.OK {
		return api.State{}, err
	}
	purses, err := bank.Move(s.Purses, t.Sender, t.Reader, t.Denom, t.Amount)
	if err != api.OK {
		return api.State{}, err
	}
	s.Purses = purses
	return state.Copy(s), api.OK
}

// doubtsOfTransfer answers what keeps t from being made, if anything does: no safe may be among these owners, as what is there is not somebody's to give, or to get.
func doubtsOfTransfer(t api.Transfer, owners ...string) api.Errno {
	if _, err := bank.Parse(bank.Bytes(t)); err != api.OK {
		return err
	}
	if slices.ContainsFunc(owners, bank.BeginsAsSafe) {
		return api.ErrName
	}
	return api.OK
}
