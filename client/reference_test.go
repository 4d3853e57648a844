package client

import (
	"bytes"
	"cmp"
	"maps"
	"regexp"
	"slices"
	"strconv"
	"testing"

	"landbridge/api"
	"landbridge/header"
	"landbridge/proof"
	"landbridge/seal"
)

// team is validators with their seeds.
type team struct {
	vals  []api.Val
	seeds [][]byte
}

// members are named: teams with a name in common have that member in common. Each one's power is its name's last digit.
func members(names ...string) team {
	var out team
	for _, n := range names {
		power, _ := strconv.Atoi(n[len(n)-1:])
		out.vals = append(out.vals, api.Val{Key: seal.Key([]byte(n)), Power: uint64(power)})
		out.seeds = append(out.seeds, []byte(n))
	}
	slices.SortFunc(out.vals, func(a, b api.Val) int { return cmp.Compare(a.Key, b.Key) })
	return out
}

func (m team) digest() []byte { return header.Digest(m.vals) }

func filled(b byte) []byte { return bytes.Repeat([]byte{b}, api.Digest) }

// block is what a header tells, and who votes for it.
type block struct {
	chain        string
	height, time int
	root         byte
	own, next    team
}

func (b block) signed(t testing.TB) api.Signed {
	t.Helper()
	h := api.Header{Chain: b.chain, Height: b.height, Time: b.time, Root: filled(b.root), Vals: b.own.digest(), Next: b.next.digest()}
	s, err := header.Sign(h, b.own.vals, b.own.seeds)
	if err != api.OK {
		t.Fatalf("%v can't be signed: %d", b, err)
	}
	return s
}

func (b block) from(t testing.TB, height int, trusted ...api.Val) api.Update {
	t.Helper()
	return api.Update{From: height, Signed: b.signed(t), Trusted: trusted}
}

func (b block) known() api.Known {
	return api.Known{Height: b.height, Time: b.time, Root: filled(b.root), Next: b.next.digest()}
}

// knowing is a client of chain b that knows these.
func knowing(trust int, l ...api.Known) api.Client {
	return api.Client{Chain: "b", Trust: trust, Known: l}
}

// numbered has n blocks of heights and times 1 and so on.
func numbered(n int) []api.Known {
	var out []api.Known
	for i := range n {
		out = append(out, api.Known{Height: i + 1, Time: i + 1, Root: filled(byte(i)), Next: filled(byte(100 + i))})
	}
	return out
}

var nameForm = regexp.MustCompile(`\A[a-z0-9]{1,20}\z`)

func referenceWrong(c api.Client) api.Errno {
	if !nameForm.MatchString(c.Chain) {
		return api.ErrName
	}
	if c.Trust <= 0 || c.Trust > 1e12 {
		return api.ErrRange
	}
	if len(c.Known) == 0 || len(c.Known) >= 31 {
		return api.ErrMany
	}
	ahead := 0
	for _, k := range c.Known {
		if k.Height <= 0 || k.Height > 1e12 || k.Time < 0 || k.Time > 1e12 {
			return api.ErrRange
		}
		if len(k.Root) != 32 || len(k.Next) != 32 || k.Height <= ahead {
			return api.ErrForm
		}
		ahead = k.Height
	}
	return api.OK
}

func referenceRefusal(c api.Client, now int) api.Errno {
	if err := referenceWrong(c); err != api.OK {
		return err
	}
	if now < 0 || now > 1e12 {
		return api.ErrRange
	}
	if c.Frozen {
		return api.ErrState
	}
	return api.OK
}

// byHeight is for clients that are not wrong.
func byHeight(c api.Client) map[int]api.Known {
	out := map[int]api.Known{}
	for _, k := range c.Known {
		out[k.Height] = k
	}
	return out
}

// referenceDoubt goes down the list of G2.
func referenceDoubt(c api.Client, u api.Update, now int) api.Errno {
	h := u.Signed.Header
	from, there := byHeight(c)[u.From]
	next := h.Height-u.From == 1
	if err := header.Check(u.Signed); err != api.OK {
		return err
	}
	for _, one := range []struct {
		err api.Errno
		is  bool
	}{
		{api.ErrNone, !there},
		{api.ErrName, c.Chain != h.Chain},
		{api.ErrTime, from.Time+c.Trust <= now},
		{api.ErrRange, u.From >= h.Height},
		{api.ErrTime, from.Time >= h.Time},
		{api.ErrTime, now+10 < h.Time},
		{api.ErrFit, next && string(h.Vals) != string(from.Next)},
	} {
		if one.is {
			return one.err
		}
	}
	if next {
		return api.OK
	}
	if err := header.Vals(u.Trusted); err != api.OK {
		return err
	}
	if string(header.Digest(u.Trusted)) != string(from.Next) {
		return api.ErrFit
	}
	if !header.Overlap(u.Trusted, u.Signed) {
		return api.ErrSeal
	}
	return api.OK
}

// referenceFollow keeps what is known by height, and sorts it at last.
func referenceFollow(c api.Client, u api.Update, now int) (api.Client, api.Errno) {
	if err := referenceRefusal(c, now); err != api.OK {
		return api.Client{}, err
	}
	if err := referenceDoubt(c, u, now); err != api.OK {
		return api.Client{}, err
	}
	h := u.Signed.Header
	k := api.Known{Height: h.Height, Time: h.Time, Root: h.Root, Next: h.Next}
	all := byHeight(c)
	frozen := deepCopy(c)
	frozen.Frozen = true
	if old, there := all[h.Height]; there {
		if sameKnown(old, k) {
			return deepCopy(c), api.OK
		}
		return frozen, api.OK
	}
	all[h.Height] = k
	heights := slices.Sorted(maps.Keys(all))
	at := slices.Index(heights, h.Height)
	if all[heights[at-1]].Time >= h.Time || at+1 < len(heights) && all[heights[at+1]].Time <= h.Time {
		return frozen, api.OK
	}
	out := api.Client{Chain: c.Chain, Trust: c.Trust}
	for _, height := range heights[max(0, len(heights)-30):] {
		out.Known = append(out.Known, all[height])
	}
	return deepCopy(out), api.OK
}

func referenceCatch(c api.Client, a, b api.Update, now int) (api.Client, api.Errno) {
	for _, err := range []api.Errno{referenceRefusal(c, now), referenceDoubt(c, a, now), referenceDoubt(c, b, now)} {
		if err != api.OK {
			return api.Client{}, err
		}
	}
	x, y := a.Signed.Header, b.Signed.Header
	same := x.Time == y.Time && bytes.Equal(x.Root, y.Root) && bytes.Equal(x.Vals, y.Vals) && bytes.Equal(x.Next, y.Next)
	if x.Height != y.Height || same {
		return api.Client{}, api.ErrFit
	}
	out := deepCopy(c)
	out.Frozen = true
	return out, api.OK
}

// referenceShown is for both of G4: what is told, if the proof is good, or is not.
func referenceShown(c api.Client, now, height int, good func(root []byte) bool) api.Errno {
	if err := referenceRefusal(c, now); err != api.OK {
		return err
	}
	k, there := byHeight(c)[height]
	if !there {
		return api.ErrNone
	}
	if now >= c.Trust+slices.MaxFunc(c.Known, func(a, b api.Known) int { return a.Height - b.Height }).Time {
		return api.ErrTime
	}
	if !good(k.Root) {
		return api.ErrProof
	}
	return api.OK
}

func referenceMember(c api.Client, now, height int, key, val []byte, p api.Proof) api.Errno {
	return referenceShown(c, now, height, func(root []byte) bool {
		p.Key, p.Val = bytes.Clone(p.Key), bytes.Clone(p.Val)
		return proof.Shown(root, p) && string(p.Key) == string(key) && string(p.Val) == string(val)
	})
}

func referenceMissing(c api.Client, now, height int, key []byte, g api.Gap) api.Errno {
	return referenceShown(c, now, height, func(root []byte) bool { return proof.Absent(root, key, g) })
}

func sameKnown(a, b api.Known) bool {
	return a.Height == b.Height && a.Time == b.Time && bytes.Equal(a.Root, b.Root) && bytes.Equal(a.Next, b.Next)
}

func sameClient(a, b api.Client) bool {
	return a.Chain == b.Chain && a.Trust == b.Trust && a.Frozen == b.Frozen && slices.EqualFunc(a.Known, b.Known, sameKnown)
}

func deepCopy(c api.Client) api.Client {
	var known []api.Known
	for _, k := range c.Known {
		k.Root, k.Next = bytes.Clone(k.Root), bytes.Clone(k.Next)
		known = append(known, k)
	}
	c.Known = known
	return c
}

func deepCopyUpdate(u api.Update) api.Update {
	h := u.Signed.Header
	h.Root, h.Vals, h.Next = bytes.Clone(h.Root), bytes.Clone(h.Vals), bytes.Clone(h.Next)
	u.Signed = api.Signed{Header: h, Vals: slices.Clone(u.Signed.Vals), Votes: slices.Clone(u.Signed.Votes)}
	u.Trusted = slices.Clone(u.Trusted)
	return u
}
