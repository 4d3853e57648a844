package bank

import (
	"cmp"
	"encoding/binary"
	"fmt"
	"math/big"
	"slices"
	"strings"
	"testing"

	"landbridge/api"
	"landbridge/state"
)

// sample are right purses with safes, vouchers, and names that begin others.
func sample() []api.Purse {
	return []api.Purse{
		{Owner: "#0", Denom: "gold", Amount: 7},
		{Owner: "#1", Denom: "0/gold", Amount: 3},
		{Owner: "#10", Denom: "gold", Amount: 11},
		{Owner: "an", Denom: "ngold", Amount: 13},
		{Owner: "ann", Denom: "0/gold", Amount: 5},
		{Owner: "ann", Denom: "gold", Amount: 10},
		{Owner: "ann", Denom: "goldy", Amount: 17},
		{Owner: "anna", Denom: "gold", Amount: 19},
		{Owner: "bob", Denom: "10/gold", Amount: 4},
		{Owner: "bob", Denom: "gold", Amount: 1<<64 - 100},
	}
}

// many are right purses, each of another owner, with 1 of gold.
func many(count int) []api.Purse {
	var out []api.Purse
	for i := range count {
		out = append(out, api.Purse{Owner: fmt.Sprintf("o%02d", i), Denom: "gold", Amount: 1})
	}
	return out
}

// purses keeps amounts of any size, by owner and denom.
type purses map[[2]string]*big.Int

func kept(l []api.Purse) purses {
	m := purses{}
	for _, p := range l {
		m.add(p.Owner, p.Denom, new(big.Int).SetUint64(p.Amount))
	}
	return m
}

func (m purses) amount(owner, denom string) *big.Int {
	if n := m[[2]string{owner, denom}]; n != nil {
		return n
	}
	return new(big.Int)
}

// add lets no purse of nothing stay; n may be below 0.
func (m purses) add(owner, denom string, n *big.Int) {
	at := [2]string{owner, denom}
	m[at] = new(big.Int).Add(m.amount(owner, denom), n)
	if m[at].Sign() == 0 {
		delete(m, at)
	}
}

func (m purses) supply(denom string) *big.Int {
	sum := new(big.Int)
	for at, n := range m {
		if at[1] == denom {
			sum.Add(sum, n)
		}
	}
	return sum
}

func (m purses) list() []api.Purse {
	var out []api.Purse
	for at, n := range m {
		out = append(out, api.Purse{Owner: at[0], Denom: at[1], Amount: n.Uint64()})
	}
	slices.SortFunc(out, func(a, b api.Purse) int { return cmp.Or(cmp.Compare(a.Owner, b.Owner), cmp.Compare(a.Denom, b.Denom)) })
	return out
}

// tooGreat is for what has no place in 64 bits.
func tooGreat(n *big.Int) bool { return n.BitLen() > 64 }

// told is an error with whether it fits, in the order in which the chapter names them.
type told struct {
	err api.Errno
	is  bool
}

func firstOf(all ...told) api.Errno {
	for _, one := range all {
		if one.is {
			return one.err
		}
	}
	return api.OK
}

func noWord(l ...string) bool {
	return slices.ContainsFunc(l, func(s string) bool { return s == "" || len(s) > 40 })
}

func (m purses) mint(owner, denom string, n uint64) api.Errno {
	more := new(big.Int).SetUint64(n)
	_, there := m[[2]string{owner, denom}]
	err := firstOf(
		told{api.ErrMuch, noWord(owner, denom)},
		told{api.ErrRange, n > 0 && tooGreat(new(big.Int).Add(m.supply(denom), more))},
		told{api.ErrMany, n > 0 && !there && len(m) == 60})
	if err == api.OK {
		m.add(owner, denom, more)
	}
	return err
}

func (m purses) burn(owner, denom string, n uint64) api.Errno {
	less := new(big.Int).SetUint64(n)
	err := firstOf(
		told{api.ErrMuch, noWord(owner, denom)},
		told{api.ErrFit, m.amount(owner, denom).Cmp(less) < 0})
	if err == api.OK {
		m.add(owner, denom, less.Neg(less))
	}
	return err
}

func (m purses) move(from, to, denom string, n uint64) api.Errno {
	if err := m.burn(from, denom, n); err != api.OK {
		return err
	}
	return m.mint(to, denom, n)
}

// origin answers what is called so where it came from, if it came over that channel.
func origin(denom string, ch int) (string, bool) {
	over, called, slash := strings.Cut(denom, "/")
	return called, slash && over == fmt.Sprint(ch)
}

// call is one of the six that answer purses; each takes of it what it asks for.
type call struct {
	name             string
	l                []api.Purse
	owner, to, denom string
	n                uint64
	ch, other        int
}

var faces = []string{"Mint", "Burn", "Move", "Leave", "Back", "Come"}

// transfer goes from the owner to the one that is told.
func (x call) transfer() api.Transfer {
	return api.Transfer{Denom: x.denom, Amount: x.n, Sender: x.owner, Reader: x.to}
}

func (x call) do() ([]api.Purse, api.Errno) {
	switch x.name {
	case "Mint":
		return Mint(x.l, x.owner, x.denom, x.n)
	case "Burn":
		return Burn(x.l, x.owner, x.denom, x.n)
	case "Move":
		return Move(x.l, x.owner, x.to, x.denom, x.n)
	case "Leave":
		return Leave(x.l, x.ch, x.transfer())
	case "Back":
		return Back(x.l, x.ch, x.transfer())
	}
	return Come(x.l, x.ch, x.other, x.transfer())
}

// reference does the same with a map.
func (x call) reference() ([]api.Purse, api.Errno) {
	m, safe := kept(x.l), fmt.Sprintf("#%d", x.ch)
	_, came := origin(x.denom, x.ch)
	called, home := origin(x.denom, x.other)
	var err api.Errno
	switch {
	case x.name == "Mint" || x.name == "Back" && came:
		err = m.mint(x.owner, x.denom, x.n)
	case x.name == "Burn" || x.name == "Leave" && came:
		err = m.burn(x.owner, x.denom, x.n)
	case x.name == "Move":
		err = m.move(x.owner, x.to, x.denom, x.n)
	case x.name == "Leave":
		err = m.move(x.owner, safe, x.denom, x.n)
	case x.name == "Back":
		err = m.move(safe, x.owner, x.denom, x.n)
	case home:
		err = m.move(safe, x.to, called, x.n)
	default:
		err = m.mint(x.to, fmt.Sprintf("%d/%s", x.ch, x.denom), x.n)
	}
	if err != api.OK {
		return nil, err
	}
	return m.list(), api.OK
}

// tell is the same of nil and of a list without entries.
func tell(l ...any) string { return fmt.Sprintf("%+v", l) }

// wrong is what Wrong of chapter 8 says of purses.
func wrong(l []api.Purse) api.Errno { return state.Wrong(api.State{Name: "a", Purses: l}) }

// checkCall is for where the reference alone knows what must come.
func checkCall(t *testing.T, x call) ([]api.Purse, api.Errno) {
	t.Helper()
	got, err := x.do()
	want, wantErr := x.reference()
	if err != wantErr || tell(got) != tell(want) {
		t.Errorf("%+v: %v and %d come, not %v and %d", x, got, err, want, wantErr)
	}
	if wrong(got) != api.OK {
		t.Errorf("%+v: what comes is wrong: %d", x, wrong(got))
	}
	return got, err
}

// check holds a call against the reference, and both against what must come.
func check(t *testing.T, x call, want []api.Purse, wantErr api.Errno) {
	t.Helper()
	if wrong(x.l) != api.OK {
		t.Fatalf("%+v: these purses are not right", x)
	}
	got, err := checkCall(t, x)
	if err != wantErr || tell(got) != tell(want) {
		t.Errorf("%+v: %v and %d come, not %v and %d", x, got, err, want, wantErr)
	}
}

// with is l with another amount in one purse, new or not; without an amount it goes.
func with(l []api.Purse, owner, denom string, amount uint64) []api.Purse {
	m := kept(l)
	delete(m, [2]string{owner, denom})
	m.add(owner, denom, new(big.Int).SetUint64(amount))
	return m.list()
}

// written is what Write makes of texts and numbers, by the library's numbers of the same form.
func written(l ...any) []byte {
	out := binary.AppendUvarint(nil, uint64(len(l)))
	for _, x := range l {
		switch x := x.(type) {
		case string:
			out = append(binary.AppendUvarint(append(out, 1), uint64(len(x))), x...)
		case uint64:
			out = binary.AppendUvarint(append(out, 0), x)
		}
	}
	return out
}

// invented is a call of what comes by chance, much of it at the edges: pick answers a number from 0 on, below n.
func invented(pick func(n int) int) call {
	one := func(l ...string) string { return l[pick(len(l))] }
	owner := func() string {
		if pick(20) == 0 {
			return one("", strings.Repeat("x", 40), strings.Repeat("x", 41))
		}
		return one("#0", "#1", "#10", "ann", "bob", "eve", "a")
	}
	denom := func() string {
		if pick(20) == 0 {
			return one("", "0", "/", "0/", "1/", strings.Repeat("y", 38), strings.Repeat("y", 39), strings.Repeat("y", 40), strings.Repeat("y", 41), "0/"+strings.Repeat("y", 39))
		}
		return one("gold", "0/gold", "1/gold", "10/gold", "0/1/gold", "00/gold", "tin")
	}
	amount := func() uint64 {
		if pick(8) == 0 {
			return 1<<64 - 1 - uint64(pick(12))
		}
		return uint64(pick(12))
	}
	m := purses{}
	if pick(6) == 0 {
		m = kept(many(57 + pick(4)))
	}
	for range pick(12) {
		if who, what := owner(), denom(); len(m) < 60 && !noWord(who, what) {
			m[[2]string{who, what}] = new(big.Int).SetUint64(max(1, amount()))
		}
	}
	ch := func() int { return []int{0, 0, 1, 10, api.MaxNum}[pick(5)] }
	return call{name: faces[pick(len(faces))], l: m.list(), owner: owner(), to: owner(), denom: denom(), n: amount(), ch: ch(), other: ch()}
}
