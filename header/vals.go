package header

import (
	"landbridge/api"
	"landbridge/sha"
	"landbridge/wire"
)

// Vals answers what keeps l from being validators, if anything does.
func Vals(l []api.Val) api.Errno {
	if len(l) < 1 || len(l) > api.MaxVals {
		return api.ErrMany
	}
	for i, v := range l {
		if v.Power < 1 || v.Power > api.MaxPower {
			return api.ErrRange
		}
		if i > 0 && l[i-1].Key >= v.Key {
			return api.ErrForm
		}
	}
	return api.OK
}

// Digest answers what headers tell of validators: of lists that are none, nothing is promised.
func Digest(l []api.Val) []byte {
	// However many are handed in, no more pieces are made than validators need.
	if len(l) > api.MaxVals {
		return nil
	}
	pieces := make([]api.Piece, 0, 2*len(l))
	for _, v := range l {
		pieces = append(pieces, number(v.Key), number(v.Power))
	}
	b, _ := wire.Write(pieces)
	return sha.Sum(b)
}

// power answers how much power those of l have whose places count, and how much all of them have.
func power(l []api.Val, counts func(place int) bool) (counted, all uint64) {
	for i, v := range l {
		all += v.Power
		if counts(i) {
			counted += v.Power
		}
	}
	return counted, all
}
