package bridge

import (
	"cmp"
	"slices"
	"strconv"

	"landbridge/api"
	"landbridge/app"
	"landbridge/header"
	"landbridge/seal"
	"landbridge/state"
)

// chain is one of two: how it stands now, who votes for its headers, and its blocks that ended, the one of height 1 first.
type chain struct {
	now   api.State
	seeds [][]byte
	vals  []api.Val
	ended []block
}

// block is one that ended: what others follow, and the state that they may be shown something of.
type block struct {
	signed api.Signed
	state  api.State
}

// validators is how many a chain has.
const validators = 3

// begun answers a chain as it begins, with one purse.
func begun(name string, p api.Purse) *chain {
	c := &chain{now: api.State{Name: name, Height: 1, Time: 1, Purses: []api.Purse{p}}}
	for i := range validators {
		seed := []byte(name + strconv.Itoa(i))
		c.seeds = append(c.seeds, seed)
		c.vals = append(c.vals, api.Val{Key: seal.Key(seed), Power: 1})
	}
	// Validators must be told in the order of their keys, which is not that of their seeds.
	slices.SortFunc(c.vals, func(a, b api.Val) int { return cmp.Compare(a.Key, b.Key) })
	return c
}

// do lets c be asked by m.
func (c *chain) do(m api.Msg) api.Done {
	s, done := app.Do(c.now, m)
	c.now = s
	return done
}

// end ends the block of c: the next one begins so much later.
func (c *chain) end(later int) api.Done {
	next, err := app.Next(c.now, later)
	if err != api.OK {
		return api.Done{Err: err}
	}
	c.ended = append(c.ended, block{c.sign(), c.now})
	c.now = next
	return api.Done{Num: len(c.ended)}
}

// sign answers the header of c as it stands now, with all votes.
func (c *chain) sign() api.Signed {
	// There are no errors: Next had nothing against the state, and the header tells of just those who sign it.
	root, _ := state.Root(c.now)
	told := header.Digest(c.vals)
	h := api.Header{Chain: c.now.Name, Height: c.now.Height, Time: c.now.Time, Root: root, Vals: told, Next: told}
	signed, _ := header.Sign(h, c.vals, c.seeds)
	return signed
}

// last answers the header of the last block of c that ended, signed, if there is one.
func (c *chain) last() (api.Signed, bool) {
	if len(c.ended) == 0 {
		return api.Signed{}, false
	}
	return c.ended[len(c.ended)-1].signed, true
}

// meet lets c have a client more, that knows the other chain's last block.
func (c *chain) meet(other *chain, trust int) api.Done {
	signed, there := other.last()
	if !there {
		return api.Done{Err: api.ErrNone}
	}
	h := signed.Header
	known := api.Known{Height: h.Height, Time: h.Time, Root: h.Root, Next: h.Next}
	return c.do(api.Msg{Kind: api.MsgClient, Chain: h.Chain, Trust: trust, Known: known})
}

// follow lets a client of c be shown the other chain's last block.
func (c *chain) follow(other *chain, number int) api.Done {
	signed, there := other.last()
	from, known := lastKnown(c.now, number)
	if !there || !known {
		return api.Done{Err: api.ErrNone}
	}
	u := api.Update{From: from, Signed: signed, Trusted: other.vals}
	return c.do(api.Msg{Kind: api.MsgFollow, Client: number, Update: u})
}

// lastKnown answers the last height that a client of s knows, if there is such a client.
func lastKnown(s api.State, number int) (int, bool) {
	if number < 0 || number >= len(s.Clients) {
		return 0, false
	}
	known := s.Clients[number].Known
	return known[len(known)-1].Height, true
}
