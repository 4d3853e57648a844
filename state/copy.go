package state

import (
	"bytes"
	"slices"

	"landbridge/api"
	"landbridge/client"
)

// Copy answers s in memory of its own: who changes it changes nothing of what was handed in.
func Copy(s api.State) api.State {
	s.Clients = slices.Clone(s.Clients)
	for i, c := range s.Clients {
		s.Clients[i] = client.Copy(c)
	}
	s.Conns, s.Chans, s.Purses = slices.Clone(s.Conns), slices.Clone(s.Chans), slices.Clone(s.Purses)
	s.Sent, s.Got, s.Acks = copiedMarks(s.Sent), copiedMarks(s.Got), copiedMarks(s.Acks)
	return s
}

func copiedMarks(l []api.Mark) []api.Mark {
	out := slices.Clone(l)
	for i, m := range out {
		out[i].Digest = bytes.Clone(m.Digest)
	}
	return out
}
