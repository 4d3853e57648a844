package packet

import (
	"slices"

	"landbridge/api"
	"landbridge/chans"
	"landbridge/state"
)

// end is a channel of this chain, and the client by which it is shown what stands on the other one; both are still the state's memory.
type end struct {
	api.Chan
	follower api.Client
}

// endOf answers channel i of s as an end, which must stand in one of these ways, or what keeps it from being one.
func endOf(s api.State, i int, stands ...int) (end, api.Errno) {
	if err := chans.DoubtsOfEnd(s, i, stands...); err != api.OK {
		return end{}, err
	}
	own := s.Chans[i]
	return end{own, s.Clients[s.Conns[own.Conn].Client]}, api.OK
}

// find answers at which place of l the mark of that channel and number stands, or would stand, and whether it does.
func find(l []api.Mark, ch, seq int) (int, bool) {
	return slices.BinarySearchFunc(l, api.Mark{Chan: ch, Seq: seq}, state.CompareMarks)
}

// with puts m into l, which it may change: in the place of one of the same channel and number, if there is one, as a state has no two of these.
func with(l []api.Mark, m api.Mark) []api.Mark {
	place, there := find(l, m.Chan, m.Seq)
	if there {
		l[place] = m
		return l
	}
	return slices.Insert(l, place, m)
}
