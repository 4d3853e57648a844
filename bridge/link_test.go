package bridge

import (
	"math"
	"slices"
	"testing"

	"landbridge/api"
)

// wantedLink is what N3 names, one after the other.
func wantedLink(ordered bool, trust int) []api.Ev {
	tick := []api.Ev{{Kind: 1, Side: 0, Later: 1}, {Kind: 1, Side: 1, Later: 1}}
	behind := append(slices.Clone(tick), api.Ev{Kind: 3, Side: 0, Later: 1}, api.Ev{Kind: 3, Side: 1, Later: 1})
	out := append(slices.Clone(tick), api.Ev{Kind: 2, Side: 0, Trust: trust}, api.Ev{Kind: 2, Side: 1, Trust: trust})
	for kind := 4; kind <= 11; kind++ {
		e := api.Ev{Kind: 5, Side: kind % 2, Msg: api.Msg{Kind: kind}}
		if kind == 8 || kind == 9 {
			e.Msg.Ordered = ordered
		}
		out = append(append(out, e), behind...)
	}
	return out
}

// N3: what must happen, whatever the trust.
func TestLink(t *testing.T) {
	for _, ordered := range []bool{false, true} {
		for _, trust := range []int{60, 7, 1, 0, -1, api.MaxNum, math.MaxInt, math.MinInt} {
			got, want := Link(ordered, trust), wantedLink(ordered, trust)
			if tell(got) != tell(want) {
				t.Errorf("%v, %d: %+v comes, not %+v", ordered, trust, got, want)
			}
			if len(got) != 44 {
				t.Errorf("%d events come", len(got))
			}
		}
	}
}

// N3: two chains that are linked have one channel each, open, if they trust for long enough.
func TestLinked(t *testing.T) {
	for _, ordered := range []bool{false, true} {
		for _, trust := range []int{3, 4, 60, api.MaxNum} {
			w, done := play(t, Link(ordered, trust)...)
			for i, d := range done {
				if d.Err != api.OK {
					t.Errorf("event %d: %d comes", i, d.Err)
				}
			}
			for i, s := range []api.State{w.Left, w.Right} {
				conns := []api.Conn{{State: api.CoOpen}}
				chans := []api.Chan{{State: api.ChOpen, Ordered: ordered, Send: 1, Recv: 1, Ack: 1}}
				if tell(s.Conns, s.Chans) != tell(conns, chans) {
					t.Errorf("%+v and %+v come", s.Conns, s.Chans)
				}
				c := s.Clients[0]
				if len(s.Clients) != 1 || c.Chain != []string{"b", "a"}[i] || c.Trust != trust || c.Frozen || tell(heights(c)) != tell([]int{1, 2, 3, 4, 5, 6, 7, 8, 9}) {
					t.Errorf("%+v comes", s.Clients)
				}
				if s.Height != 10 || s.Time != 10 || tell(s.Purses) != tell([][]api.Purse{beginning().Left.Purses, beginning().Right.Purses}[i]) {
					t.Errorf("%+v comes", s)
				}
			}
		}
	}
	// What is known of time 1 is too old at 3, when the first block behind it is shown.
	for trust, want := range map[int]api.Errno{3: api.OK, 2: api.ErrTime, 1: api.ErrTime, 0: api.ErrNone, -1: api.ErrNone} {
		_, done := play(t, Link(false, trust)...)
		if done[7].Err != want || done[8].Err != want {
			t.Errorf("trust %d: %d and %d come, not %d", trust, done[7].Err, done[8].Err, want)
		}
	}
}

// N3: who is linked once can be linked once more, but by the numbers that Link tells it is the first ends that are asked.
func TestLinkedTwice(t *testing.T) {
	for _, ordered := range []bool{false, true} {
		x := told(append(Link(ordered, 60), Link(!ordered, 30)...))
		x.check(t)
		for _, s := range x.sides {
			if len(s.now.Clients) != 2 || s.now.Chans[0].State != api.ChOpen || s.now.Chans[0].Ordered != ordered {
				t.Errorf("%+v comes", s.now)
			}
		}
	}
}
