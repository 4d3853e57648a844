package app

import (
	"landbridge/api"
	"landbridge/client"
	"landbridge/state"
)

// newClient answers s with one client more, and its number.
func newClient(s api.State, m api.Msg) (api.State, int, api.Errno) {
	number := len(s.Clients)
	if number >= api.MaxClients {
		return api.State{}, 0, api.ErrMany
	}
	c, err := client.New(m.Chain, m.Trust, m.Known)
	if err != api.OK {
		return api.State{}, 0, err
	}
	s = state.Copy(s)
	s.Clients = append(s.Clients, c)
	return s, number, api.OK
}

// toldClient answers s once one of its clients was told of a block, or of two of one height.
func toldClient(s api.State, m api.Msg) (api.State, api.Errno) {
	if m.Client < 0 || m.Client >= len(s.Clients) {
		return api.State{}, api.ErrNone
	}
	c, err := told(s.Clients[m.Client], m, s.Time)
	if err != api.OK {
		return api.State{}, err
	}
	s = state.Copy(s)
	s.Clients[m.Client] = c
	return s, api.OK
}

func told(c api.Client, m api.Msg, now int) (api.Client, api.Errno) {
	if m.Kind == api.MsgCatch {
		return client.Catch(c, m.Update, m.Second, now)
	}
	return client.Follow(c, m.Update, now)
}
