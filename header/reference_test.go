package header

import (
	"bytes"
	"cmp"
	"crypto/sha256"
	"encoding/binary"
	"regexp"
	"slices"
	"strconv"
	"testing"

	"landbridge/api"
	"landbridge/seal"
)

// seeded answers validators of seeds `0`, `1` and so on with these powers, in the order of their keys, and their seeds in the same order.
func seeded(powers ...uint64) ([]api.Val, [][]byte) {
	type one struct {
		val  api.Val
		seed []byte
	}
	var l []one
	for i, p := range powers {
		seed := []byte(strconv.Itoa(i))
		l = append(l, one{api.Val{Key: seal.Key(seed), Power: p}, seed})
	}
	slices.SortFunc(l, func(a, b one) int { return cmp.Compare(a.val.Key, b.val.Key) })
	var vals []api.Val
	var seeds [][]byte
	for i, o := range l {
		// A power goes with the place, so that a test can tell who has which.
		vals = append(vals, api.Val{Key: o.val.Key, Power: powers[i]})
		seeds = append(seeds, o.seed)
	}
	return vals, seeds
}

func filled(b byte, n int) []byte { return bytes.Repeat([]byte{b}, n) }

// headerOf is a header of these validators that is not wrong.
func headerOf(vals []api.Val) api.Header {
	return api.Header{Chain: "abc1", Height: 5, Time: 7, Root: filled(1, 32), Vals: referenceDigest(vals), Next: filled(2, 32)}
}

// signedBy has the votes of those at these places.
func signedBy(t *testing.T, vals []api.Val, seeds [][]byte, places ...int) api.Signed {
	t.Helper()
	var some [][]byte
	for _, i := range places {
		some = append(some, seeds[i])
	}
	s, err := Sign(headerOf(vals), vals, some)
	if err != api.OK {
		t.Fatalf("Sign: %d comes", err)
	}
	return s
}

func referenceDigest(l []api.Val) []byte {
	b := binary.AppendUvarint(nil, uint64(2*len(l)))
	for _, v := range l {
		b = binary.AppendUvarint(append(b, 0), v.Key)
		b = binary.AppendUvarint(append(b, 0), v.Power)
	}
	d := sha256.Sum256(b)
	return d[:]
}

func referenceBytes(h api.Header) []byte {
	out := append([]byte{6, 1, byte(len(h.Chain))}, h.Chain...)
	out = binary.AppendUvarint(append(out, 0), uint64(h.Height))
	out = binary.AppendUvarint(append(out, 0), uint64(h.Time))
	for _, d := range [][]byte{h.Root, h.Vals, h.Next} {
		out = append(append(out, 1, byte(len(d))), d...)
	}
	return out
}

func referenceVals(l []api.Val) api.Errno {
	if len(l) == 0 || len(l) > 10 {
		return api.ErrMany
	}
	for i, v := range l {
		if v.Power == 0 || v.Power > 1000000 {
			return api.ErrRange
		}
		if slices.ContainsFunc(l[:i], func(ahead api.Val) bool { return ahead.Key >= v.Key }) {
			return api.ErrForm
		}
	}
	return api.OK
}

var nameForm = regexp.MustCompile(`\A[a-z0-9]{1,20}\z`)

func referenceWrong(h api.Header) api.Errno {
	if !nameForm.MatchString(h.Chain) {
		return api.ErrName
	}
	if h.Height <= 0 || h.Height > 1e12 || h.Time <= -1 || h.Time > 1e12 {
		return api.ErrRange
	}
	if len(h.Root) != 32 || len(h.Vals) != 32 || len(h.Next) != 32 {
		return api.ErrForm
	}
	return api.OK
}

// referenceCheck reckons shares in fractions of floats: powers are small enough for that.
func referenceCheck(s api.Signed) api.Errno {
	if err := referenceWrong(s.Header); err != api.OK {
		return err
	}
	if err := referenceVals(s.Vals); err != api.OK {
		return err
	}
	if len(s.Votes) != len(s.Vals) || !bytes.Equal(s.Header.Vals, referenceDigest(s.Vals)) {
		return api.ErrFit
	}
	var yes, no float64
	for i, v := range s.Vals {
		if !s.Votes[i].Is {
			no += float64(v.Power)
			continue
		}
		yes += float64(v.Power)
		if !seal.Good(v.Key, referenceBytes(s.Header), s.Votes[i].Seal) {
			return api.ErrSeal
		}
	}
	if yes <= 2*no {
		return api.ErrSeal
	}
	return api.OK
}

// referenceOverlap is for what nothing is said of.
func referenceOverlap(trusted []api.Val, s api.Signed) bool {
	voters := map[uint64]bool{}
	for i, v := range s.Vals {
		voters[v.Key] = s.Votes[i].Is
	}
	var yes, no float64
	for _, v := range trusted {
		if voters[v.Key] {
			yes += float64(v.Power)
		} else {
			no += float64(v.Power)
		}
	}
	return 2*yes > no
}

func sameHeader(a, b api.Header) bool {
	return a.Chain == b.Chain && a.Height == b.Height && a.Time == b.Time &&
		bytes.Equal(a.Root, b.Root) && bytes.Equal(a.Vals, b.Vals) && bytes.Equal(a.Next, b.Next)
}

func sameSigned(a, b api.Signed) bool {
	return sameHeader(a.Header, b.Header) && slices.Equal(a.Vals, b.Vals) && slices.Equal(a.Votes, b.Votes)
}

func deepCopy(s api.Signed) api.Signed {
	h := s.Header
	h.Root, h.Vals, h.Next = bytes.Clone(h.Root), bytes.Clone(h.Vals), bytes.Clone(h.Next)
	return api.Signed{Header: h, Vals: slices.Clone(s.Vals), Votes: slices.Clone(s.Votes)}
}
