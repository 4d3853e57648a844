package client

import (
	"bytes"
	"cmp"
	"slices"

	"landbridge/api"
	"landbridge/header"
)

// Follow answers c, once it was shown u: it knows one block more, or is as it was, or frozen.
func Follow(c api.Client, u api.Update, now int) (api.Client, api.Errno) {
	if err := refusal(c, now); err != api.OK {
		return api.Client{}, err
	}
	if err := doubts(c, now)(u); err != api.OK {
		return api.Client{}, err
	}
	h := u.Signed.Header
	return learn(Copy(c), copiedKnown(api.Known{Height: h.Height, Time: h.Time, Root: h.Root, Next: h.Next})), api.OK
}

// Catch answers c, frozen, if a and b are two headers of one height that it would believe.
func Catch(c api.Client, a, b api.Update, now int) (api.Client, api.Errno) {
	if err := refusal(c, now); err != api.OK {
		return api.Client{}, err
	}
	doubt := doubts(c, now)
	for _, u := range []api.Update{a, b} {
		if err := doubt(u); err != api.OK {
			return api.Client{}, err
		}
	}
	if !contradict(a.Signed.Header, b.Signed.Header) {
		return api.Client{}, api.ErrFit
	}
	c = Copy(c)
	c.Frozen = true
	return c, api.OK
}

// refusal answers why c is not asked at all at that time, if anything keeps it from being asked.
func refusal(c api.Client, now int) api.Errno {
	if err := Wrong(c); err != api.OK {
		return err
	}
	switch {
	case !isTime(now):
		return api.ErrRange
	case c.Frozen:
		return api.ErrState
	}
	return api.OK
}

// doubts answers what tells why c, at that time, does not believe an update's header, if it does not.
func doubts(c api.Client, now int) func(u api.Update) api.Errno {
	return func(u api.Update) api.Errno {
		if err := header.Check(u.Signed); err != api.OK {
			return err
		}
		from, there := find(c, u.From)
		if !there {
			return api.ErrNone
		}
		h := u.Signed.Header
		switch {
		case h.Chain != c.Chain:
			return api.ErrName
		case !trusts(c, from, now):
			return api.ErrTime
		case h.Height <= from.Height:
			return api.ErrRange
		case h.Time <= from.Time || h.Time-now > api.MaxDrift:
			return api.ErrTime
		case h.Height == from.Height+1:
			return fit(h.Vals, from.Next)
		}
		return doubtsOfLeap(from, u)
	}
}

// doubtsOfLeap is for where blocks between are not known: those who stood behind from vouch for the header.
func doubtsOfLeap(from api.Known, u api.Update) api.Errno {
	if err := header.Vals(u.Trusted); err != api.OK {
		return err
	}
	if err := fit(header.Digest(u.Trusted), from.Next); err != api.OK {
		return err
	}
	if !header.Overlap(u.Trusted, u.Signed) {
		return api.ErrSeal
	}
	return api.OK
}

func fit(a, b []byte) api.Errno {
	if !bytes.Equal(a, b) {
		return api.ErrFit
	}
	return api.OK
}

// contradict holds what is voted for against each other: headers that are not wrong are the same just where these bytes are.
func contradict(a, b api.Header) bool {
	return a.Height == b.Height && !bytes.Equal(header.Bytes(a), header.Bytes(b))
}

// learn answers c, which is not frozen, once it believes k; both are memory that it may change and keep.
func learn(c api.Client, k api.Known) api.Client {
	place, there := slices.BinarySearchFunc(c.Known, k.Height, compareHeight)
	if there {
		c.Frozen = unlike(c.Known[place], k)
		return c
	}
	if !inTime(c.Known, place, k.Time) {
		c.Frozen = true
		return c
	}
	c.Known = slices.Insert(c.Known, place, k)
	if len(c.Known) > api.MaxKnown {
		c.Known = slices.Delete(c.Known, 0, 1)
	}
	return c
}

// inTime answers whether that time is between those of the blocks beside that place in l.
func inTime(l []api.Known, place, time int) bool {
	return (place == 0 || l[place-1].Time < time) && (place == len(l) || time < l[place].Time)
}

// unlike is for what is known of one height.
func unlike(a, b api.Known) bool {
	return a.Time != b.Time || !bytes.Equal(a.Root, b.Root) || !bytes.Equal(a.Next, b.Next)
}

func compareHeight(k api.Known, height int) int { return cmp.Compare(k.Height, height) }
