package bank

import (
	"slices"
	"strconv"
	"strings"

	"landbridge/api"
	"landbridge/state"
	"landbridge/wire"
)

// Bytes answers what a packet carries of t; nothing, if that is too much.
func Bytes(t api.Transfer) []byte {
	// Beside the fault there are no bytes.
	out, _ := wire.Write([]api.Piece{text(t.Denom), {Kind: api.PNum, N: t.Amount}, text(t.Sender), text(t.Reader)})
	return out
}

func text(s string) api.Piece { return api.Piece{Kind: api.PBytes, B: []byte(s)} }

// Parse answers the transfer that b tells of, or what keeps it from being one.
func Parse(b []byte) (api.Transfer, api.Errno) {
	l, err := wire.Read(b)
	switch {
	case err != api.OK:
		return api.Transfer{}, err
	case !areOf(l, api.PBytes, api.PNum, api.PBytes, api.PBytes):
		return api.Transfer{}, api.ErrForm
	}
	t := api.Transfer{Denom: string(l[0].B), Amount: l[1].N, Sender: string(l[2].B), Reader: string(l[3].B)}
	switch {
	case !state.IsWord(t.Denom) || !state.IsWord(t.Sender) || !state.IsWord(t.Reader):
		return api.Transfer{}, api.ErrMuch
	case t.Amount == 0:
		return api.Transfer{}, api.ErrRange
	}
	return t, api.OK
}

// areOf answers whether l are pieces of these kinds, one behind the other, and no others.
func areOf(l []api.Piece, kinds ...int) bool {
	return slices.EqualFunc(l, kinds, func(p api.Piece, kind int) bool { return p.Kind == kind })
}

// Leave answers l once t's Sender has given it to channel ch: what came over it is no more, all else is kept in its safe.
func Leave(l []api.Purse, ch int, t api.Transfer) ([]api.Purse, api.Errno) {
	if strings.HasPrefix(t.Denom, cameOver(ch)) {
		return Burn(l, t.Sender, t.Denom, t.Amount)
	}
	return Move(l, t.Sender, safeOf(ch), t.Denom, t.Amount)
}

// Back answers l once t's Sender has back what left over channel ch, and did not arrive.
func Back(l []api.Purse, ch int, t api.Transfer) ([]api.Purse, api.Errno) {
	if strings.HasPrefix(t.Denom, cameOver(ch)) {
		return Mint(l, t.Sender, t.Denom, t.Amount)
	}
	return Move(l, safeOf(ch), t.Sender, t.Denom, t.Amount)
}

// Come answers l once t's Reader has what arrived over channel ch, which is other on the other chain: what came from here comes home out of the safe, and all else stands for what is kept there.
func Come(l []api.Purse, ch, other int, t api.Transfer) ([]api.Purse, api.Errno) {
	if called, home := strings.CutPrefix(t.Denom, cameOver(other)); home {
		return Move(l, safeOf(ch), t.Reader, called, t.Amount)
	}
	return Mint(l, t.Reader, cameOver(ch)+t.Denom, t.Amount)
}

// safe is how all safes are called, at their beginning.
const safe = "#"

// BeginsAsSafe answers whether owner is called, at its beginning, as safes are: nobody else is to be, or what is kept there could be taken away.
func BeginsAsSafe(owner string) bool { return strings.HasPrefix(owner, safe) }

// safeOf answers the owner of what is kept here while it is away over channel ch.
func safeOf(ch int) string { return safe + strconv.Itoa(ch) }

// cameOver answers how all is called, at its beginning, that came over channel ch.
func cameOver(ch int) string { return strconv.Itoa(ch) + "/" }
