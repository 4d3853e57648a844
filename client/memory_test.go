package client

import (
	"bytes"
	"slices"
	"sync"
	"testing"

	"landbridge/api"
	"landbridge/header"
)

// roomy answers c with something behind each of its lists, and what tells whether any of it has changed.
func roomy(c api.Client) (api.Client, func() bool) {
	var pieces [][]byte
	behind := func(b []byte) []byte {
		piece := append(bytes.Clone(b), "behind"...)
		pieces = append(pieces, piece)
		return piece[:len(b)]
	}
	own := deepCopy(c)
	for i, k := range own.Known {
		own.Known[i].Root, own.Known[i].Next = behind(k.Root), behind(k.Next)
	}
	last := api.Known{Height: 4, Time: -4, Root: []byte("behind")}
	all := append(own.Known, last)
	own.Known = all[:len(all)-1]
	return own, func() bool {
		same := sameClient(own, c) && sameKnown(all[len(all)-1], last)
		for _, piece := range pieces {
			same = same && bytes.HasSuffix(piece, []byte("behind"))
		}
		return same
	}
}

// Z2: neither what is handed in nor the room behind it is changed, and that room means nothing.
func TestArgumentsAreOnlyRead(t *testing.T) {
	own := members("u1", "v1", "w1")
	first := block{chain: "b", height: 3, time: 10, own: own, next: own}
	c, same := roomy(knowing(20, first.known()))
	full := knowing(100)
	for i := range 30 {
		full.Known = append(full.Known, block{height: 3 * (i + 1), time: 10 * (i + 1), next: own}.known())
	}
	full, sameFull := roomy(full)
	next := block{chain: "b", height: 4, time: 14, root: 1, own: own, next: own}
	other := next
	other.root++

	a, b := next.from(t, 3), other.from(t, 3)
	before := deepCopyUpdate(a)
	vals := append(slices.Clone(a.Signed.Vals), api.Val{Key: 1, Power: 1})
	votes := append(slices.Clone(a.Signed.Votes), api.Vote{Is: true})
	digests := slices.Concat(a.Signed.Header.Root, a.Signed.Header.Vals, a.Signed.Header.Next, []byte("behind"))
	trusted := append(slices.Clone(own.vals), api.Val{Key: 2, Power: 2})
	a.Signed.Vals, a.Signed.Votes, a.Trusted = vals[:3], votes[:3], trusted[:3]
	a.Signed.Header.Root, a.Signed.Header.Vals, a.Signed.Header.Next = digests[:32], digests[32:64], digests[64:96]

	got, err := Follow(c, a, 14)
	if want := knowing(20, first.known(), next.known()); err != api.OK || !sameClient(got, want) {
		t.Errorf("Follow: %v and %d come", got, err)
	}
	if got, err = Follow(full, a, 14); err != api.OK || len(got.Known) != 30 || got.Known[0].Height != 4 || got.Frozen {
		t.Errorf("Follow, of a full one: %v and %d come", got, err)
	}
	if got, err = Catch(c, a, b, 14); err != api.OK || !got.Frozen {
		t.Errorf("Catch: %v and %d come", got, err)
	}
	if _, there := At(c, 4); there || Wrong(c) != api.OK || !Active(c, 14) {
		t.Error("At, Wrong or Active: another answer")
	}
	kept := vals[3] == api.Val{Key: 1, Power: 1} && votes[3] == api.Vote{Is: true} && trusted[3] == api.Val{Key: 2, Power: 2} &&
		bytes.HasSuffix(digests, []byte("behind")) && slices.Equal(trusted[:3], own.vals) &&
		slices.Equal(vals[:3], before.Signed.Vals) && slices.Equal(votes[:3], before.Signed.Votes) &&
		bytes.Equal(digests[:96], slices.Concat(before.Signed.Header.Root, before.Signed.Header.Vals, before.Signed.Header.Next))
	if !same() || !sameFull() || !kept {
		t.Error("an argument or its spare room has changed")
	}
}

// spoil overwrites all that a client reaches, spare room too, with unlike things, and tells whether any two lists of it share memory.
func spoil(c api.Client) bool {
	known := c.Known[:cap(c.Known)]
	var lists [][]byte
	for _, k := range known {
		lists = append(lists, k.Root[:cap(k.Root)], k.Next[:cap(k.Next)])
	}
	for i, list := range lists {
		for at := range list {
			list[at] = byte(i)
		}
	}
	shared := false
	for i, list := range lists {
		for _, b := range list {
			shared = shared || b != byte(i)
		}
	}
	clear(known)
	return shared
}

// Z2: answers share no memory with arguments, with other answers or within themselves, spare room included; nothing of what was handed in is kept.
func TestAnswersAreNewMemory(t *testing.T) {
	own := members("u1", "v1", "w1")
	one := own.digest()
	// One memory for all digests: an answer may not share even what its argument does.
	known := func(height, time int) api.Known { return api.Known{Height: height, Time: time, Root: one, Next: one} }
	h := api.Header{Chain: "b", Height: 4, Time: 14, Root: one, Vals: one, Next: one}
	s, _ := header.Sign(h, own.vals, own.seeds)
	s.Header = h
	u := api.Update{From: 3, Signed: s}
	otherHeader := h
	otherHeader.Time = 15
	otherSigned, _ := header.Sign(otherHeader, own.vals, own.seeds)
	other := api.Update{From: 3, Signed: otherSigned}
	c := knowing(20, known(3, 10))
	late := knowing(20, known(3, 10), known(6, 13))
	again := knowing(20, known(3, 10), known(4, 14))
	full := knowing(20)
	for i := range 30 {
		full.Known = append(full.Known, known(i+3+min(i, 1), 10+5*i))
	}
	for name, call := range map[string]func() (api.Client, api.Errno){
		"New":                func() (api.Client, api.Errno) { return New("b", 20, known(3, 10)) },
		"Follow, one more":   func() (api.Client, api.Errno) { return Follow(c, u, 14) },
		"Follow, one for it": func() (api.Client, api.Errno) { return Follow(full, u, 14) },
		"Follow, frozen":     func() (api.Client, api.Errno) { return Follow(late, u, 14) },
		"Follow, as it was":  func() (api.Client, api.Errno) { return Follow(again, u, 14) },
		"Copy":               func() (api.Client, api.Errno) { return Copy(again), api.OK },
		"Catch":              func() (api.Client, api.Errno) { return Catch(c, u, other, 14) },
		"At": func() (api.Client, api.Errno) {
			k, _ := At(c, 3)
			return knowing(1, k), api.OK
		},
	} {
		first, err := call()
		second, _ := call()
		want := deepCopy(second)
		if err != api.OK || !sameClient(first, second) {
			t.Errorf("%s: %v and %d come", name, first, err)
		}
		if spoil(first) {
			t.Errorf("%s: two lists of one answer share memory", name)
		}
		if !sameClient(second, want) || !bytes.Equal(one, own.digest()) || !slices.Equal(s.Vals, own.vals) {
			t.Errorf("%s: an answer is shared", name)
		}
		if third, _ := call(); !sameClient(third, want) {
			t.Errorf("%s: an answer is kept", name)
		}
		clear(one)
		if !sameClient(second, want) {
			t.Errorf("%s: an answer hangs on what was handed in", name)
		}
		copy(one, own.digest())
	}
}

// Z3
func TestNilAndEmptyAreTheSame(t *testing.T) {
	own := members("u1", "v1", "w1")
	c := knowing(20, block{height: 3, time: 10, next: own}.known())
	near := block{chain: "b", height: 4, time: 14, own: own, next: own}.from(t, 3)
	far := block{chain: "b", height: 5, time: 14, own: own, next: own}.from(t, 3)
	for _, trusted := range [][]api.Val{nil, {}} {
		near.Trusted, far.Trusted = trusted, trusted
		if got, err := Follow(c, near, 14); err != api.OK || len(got.Known) != 2 {
			t.Errorf("%v and %d come", got, err)
		}
		checkFollow(t, "nobody is trusted", c, far, 14, api.Client{}, api.ErrMany)
	}
	for _, l := range [][]api.Known{nil, {}} {
		checkWrong(t, "nothing is known", api.Client{Chain: "b", Trust: 1, Known: l}, api.ErrMany)
		checkFollow(t, "nothing is known", api.Client{Chain: "b", Trust: 1, Known: l}, near, 14, api.Client{}, api.ErrMany)
	}
	for _, d := range [][]byte{nil, {}} {
		checkNew(t, "no root", "b", 1, api.Known{Height: 1, Root: d, Next: filled(0)}, api.ErrForm)
	}
}

// Z1: calls that run side by side don't disturb each other.
func TestCallsSideBySide(t *testing.T) {
	own := members("u1", "v1", "w1")
	c := knowing(20, block{height: 3, time: 10, next: own}.known())
	b := block{chain: "b", height: 4, time: 14, own: own, next: own}
	u := b.from(t, 3)
	b.root++
	v := b.from(t, 3)
	want, _ := referenceFollow(c, u, 14)
	var all sync.WaitGroup
	for range 8 {
		all.Go(func() {
			for range 20 {
				got, err := Follow(c, u, 14)
				caught, err2 := Catch(c, u, v, 14)
				if err != api.OK || err2 != api.OK || !sameClient(got, want) || !caught.Frozen || Wrong(c) != api.OK {
					t.Error("another answer")
					return
				}
			}
		})
	}
	all.Wait()
}

// FuzzFollow holds Follow, Catch and Active against the reference, of clients and updates of any numbers.
func FuzzFollow(f *testing.F) {
	f.Add("b", 20, 3, 10, 5, 12, 3, 4, 11, 14, byte(0), byte(0), byte(0))
	f.Add("b", 20, 3, 10, 9, 90, 3, 6, 14, 14, byte(1), byte(1), byte(0))
	f.Add("b", 20, 3, 10, 6, 14, 3, 6, 14, 14, byte(1), byte(0), byte(1))
	f.Add("c", 0, 1, 0, 1, 0, 1, 2, 3, -1, byte(2), byte(3), byte(4))
	f.Fuzz(func(t *testing.T, chain string, trust, low, lowTime, high, highTime, from, height, time, now int, who, trusted, frozen byte) {
		teams := []team{members("u1", "v1", "w1"), members("u1", "v1", "x1"), members("x1", "y1", "z1"), {}}
		c := api.Client{Chain: chain, Trust: trust, Frozen: frozen&2 > 0, Known: []api.Known{
			block{height: low, time: lowTime, next: teams[0]}.known(),
			block{height: high, time: highTime, root: 1, next: teams[0]}.known(),
		}}
		if err := referenceWrong(c); Wrong(c) != err {
			t.Fatalf("Wrong: %d doesn't come", err)
		}
		own := teams[who%3]
		h := api.Header{Chain: "b", Height: height, Time: time, Root: filled(frozen & 1), Vals: own.digest(), Next: teams[0].digest()}
		s, err := header.Sign(h, own.vals, own.seeds)
		if err != api.OK {
			s = api.Signed{Header: h, Vals: own.vals}
		}
		u := api.Update{From: from, Signed: s, Trusted: teams[trusted%4].vals}
		got, err := Follow(c, u, now)
		if want, wantErr := referenceFollow(c, u, now); err != wantErr || !sameClient(got, want) {
			t.Errorf("Follow: %v and %d come, not %v and %d", got, err, want, wantErr)
		}
		h.Root = filled(2)
		other := u
		if s, err := header.Sign(h, own.vals, own.seeds); err == api.OK {
			other.Signed = s
		}
		caught, err := Catch(c, u, other, now)
		if want, wantErr := referenceCatch(c, u, other, now); err != wantErr || !sameClient(caught, want) {
			t.Errorf("Catch: %v and %d come, not %v and %d", caught, err, want, wantErr)
		}
		active := Active(c, now)
		if referenceRefusal(c, now) == api.OK && active != (now < highTime+trust) {
			t.Errorf("Active: %v comes", active)
		}
	})
}
