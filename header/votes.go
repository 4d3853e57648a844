package header

import (
	"bytes"
	"cmp"
	"slices"

	"landbridge/api"
	"landbridge/seal"
)

// Sign answers h with the votes of those of vals whose seeds are among seeds.
func Sign(h api.Header, vals []api.Val, seeds [][]byte) (api.Signed, api.Errno) {
	if err := wrongTogether(h, vals); err != api.OK {
		return api.Signed{}, err
	}
	return api.Signed{Header: copied(h), Vals: slices.Clone(vals), Votes: votes(Bytes(h), vals, seeds)}, api.OK
}

// Check answers what keeps s from being a header that its validators voted for, if anything does.
func Check(s api.Signed) api.Errno {
	if err := wrongTogether(s.Header, s.Vals); err != api.OK {
		return err
	}
	if len(s.Votes) != len(s.Vals) {
		return api.ErrFit
	}
	if !allGood(s) {
		return api.ErrSeal
	}
	counted, all := power(s.Vals, func(place int) bool { return s.Votes[place].Is })
	if 3*counted <= 2*all {
		return api.ErrSeal
	}
	return api.OK
}

// Overlap answers whether those who voted in s have more than a third of trusted's power, as trusted tells it.
func Overlap(trusted []api.Val, s api.Signed) bool {
	counted, all := power(trusted, func(place int) bool { return voted(s, trusted[place].Key) })
	return 3*counted > all
}

// wrongTogether answers what keeps h from being a header of vals, if anything does.
func wrongTogether(h api.Header, vals []api.Val) api.Errno {
	if err := Wrong(h); err != api.OK {
		return err
	}
	if err := Vals(vals); err != api.OK {
		return err
	}
	if !bytes.Equal(h.Vals, Digest(vals)) {
		return api.ErrFit
	}
	return api.OK
}

func votes(message []byte, vals []api.Val, seeds [][]byte) []api.Vote {
	keys := make([]uint64, len(seeds))
	for i, seed := range seeds {
		keys[i] = seal.Key(seed)
	}
	out := make([]api.Vote, len(vals))
	for i, v := range vals {
		if last := lastOf(keys, v.Key); last >= 0 {
			out[i] = api.Vote{Is: true, Seal: seal.Sign(seeds[last], message)}
		}
	}
	return out
}

// lastOf answers where key stands last in keys: below 0, if it does not.
func lastOf(keys []uint64, key uint64) int {
	last := len(keys) - 1
	for last >= 0 && keys[last] != key {
		last--
	}
	return last
}

// allGood asks nothing of who did not vote: whatever seal stands there means nothing.
func allGood(s api.Signed) bool {
	message := Bytes(s.Header)
	for i, vote := range s.Votes {
		if vote.Is && !seal.Good(s.Vals[i].Key, message, vote.Seal) {
			return false
		}
	}
	return true
}

// voted answers whether key votes in s. Where anything is promised, keys rise; elsewhere there may be fewer votes than keys.
func voted(s api.Signed, key uint64) bool {
	place, there := slices.BinarySearchFunc(s.Vals, key, compareKey)
	return there && place < len(s.Votes) && s.Votes[place].Is
}

func compareKey(v api.Val, key uint64) int { return cmp.Compare(v.Key, key) }
