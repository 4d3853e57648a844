package bank

import (
	"math"
	"math/rand"
	"slices"
	"strings"
	"testing"

	"landbridge/api"
)

// Example 12 of the document.
func TestFiveOfGold(t *testing.T) {
	l, err := Mint(nil, "ann", "gold", 5)
	if err != api.OK {
		t.Fatal(err)
	}
	l, err = Move(l, "ann", "bob", "gold", 2)
	want := []api.Purse{{Owner: "ann", Denom: "gold", Amount: 3}, {Owner: "bob", Denom: "gold", Amount: 2}}
	if err != api.OK || !slices.Equal(l, want) {
		t.Errorf("%v and %d come", l, err)
	}
}

// L1: each purse's, and 0 of those that there are not: names that begin others, or go on elsewhere.
func TestAmount(t *testing.T) {
	l := sample()
	for _, p := range l {
		if got := Amount(l, p.Owner, p.Denom); got != p.Amount {
			t.Errorf("%v: %d comes", p, got)
		}
	}
	for _, none := range [][2]string{
		{"", ""}, {"ann", ""}, {"", "gold"}, {"gold", "ann"}, {"an", "gold"}, {"annn", "gold"}, {"anngold", ""}, {"Ann", "gold"},
		{"ann", "gol"}, {"ann", "goldyy"}, {"ann", "1/gold"}, {"#", "gold"}, {"#1", "gold"}, {"zed", "gold"}, {"!", "gold"}, {"ann", strings.Repeat("x", 1000)},
	} {
		if got := Amount(l, none[0], none[1]); got != 0 {
			t.Errorf("%v: %d comes", none, got)
		}
	}
	if got := Amount(nil, "ann", "gold"); got != 0 {
		t.Errorf("of no purses %d comes", got)
	}
}

// L1: at the edge of 64 bits and beyond, once and more than once round.
func TestSupply(t *testing.T) {
	const most = math.MaxUint64
	for _, one := range []struct {
		amounts []uint64
		want    uint64
		over    bool
	}{
		{nil, 0, false},
		{[]uint64{1}, 1, false},
		{[]uint64{1, 2, 3}, 6, false},
		{[]uint64{most}, most, false},
		{[]uint64{most - 1, 1}, most, false},
		{[]uint64{1 << 63, 1<<63 - 1}, most, false},
		{[]uint64{most, 1}, 0, true},
		{[]uint64{1, most}, 0, true},
		{[]uint64{1 << 63, 1 << 63}, 0, true},
		{[]uint64{most, 1, 5}, 0, true},
		{[]uint64{most, 2, 5}, 0, true},
		{[]uint64{most, most}, 0, true},
		{[]uint64{most, most, most}, 0, true},
		{[]uint64{1 << 63, 1 << 63, 1 << 63, 1 << 63}, 0, true},
	} {
		l := []api.Purse{{Owner: "a", Denom: "0/gold", Amount: most}}
		for i, n := range one.amounts {
			owner := string([]byte{byte('b' + i)})
			l = append(l, api.Purse{Owner: owner, Denom: "gold", Amount: n}, api.Purse{Owner: owner, Denom: "tin", Amount: most})
		}
		if got, over := Supply(l, "gold"); got != one.want || over != one.over {
			t.Errorf("%v: %d and %v come", one.amounts, got, over)
		}
		for _, none := range []string{"", "gol", "goldy", "GOLD", "b"} {
			if got, over := Supply(l, none); got != 0 || over {
				t.Errorf("%v: of %q %d and %v come", one.amounts, none, got, over)
			}
		}
	}
}

// words of every length about the edges, with whether they are too short or too long.
func words() map[string]bool {
	out := map[string]bool{}
	for n := range 50 {
		out[strings.Repeat("w", n)] = n < 1 || n > 40
	}
	out[strings.Repeat("\x00", 40)] = false
	out[strings.Repeat("é", 20)] = false
	out[strings.Repeat("é", 21)] = true
	out[strings.Repeat("w", 1<<20)] = true
	return out
}

// L1
func TestWordsOfOwnersAndDenoms(t *testing.T) {
	for word, bad := range words() {
		l := []api.Purse{{Owner: "ann", Denom: "gold", Amount: 5}}
		for _, name := range []string{"Mint", "Burn"} {
			for _, x := range []call{{owner: word, denom: "gold"}, {owner: "ann", denom: word}} {
				x.name, x.l = name, l
				for _, n := range []uint64{0, 1, math.MaxUint64} {
					x.n = n
					if _, err := checkCall(t, x); (err == api.ErrMuch) != bad {
						t.Errorf("%s of %d bytes and %d bytes: %d comes", name, len(x.owner), len(x.denom), err)
					}
				}
			}
		}
		if bad {
			check(t, call{name: "Move", l: l, owner: "ann", to: word, denom: "gold", n: 1}, nil, api.ErrMuch)
			check(t, call{name: "Move", l: l, owner: "ann", to: word, denom: "gold"}, nil, api.ErrMuch)
			continue
		}
		minted, err := Mint(l, word, word, 9)
		if err != api.OK || Amount(minted, word, word) != 9 || wrong(minted) != api.OK {
			t.Errorf("%d bytes: %v and %d come", len(word), minted, err)
		}
	}
}

// L1: into a purse that there is, and as a new one at each place.
func TestMint(t *testing.T) {
	l := sample()
	for _, p := range l {
		check(t, call{name: "Mint", l: l, owner: p.Owner, denom: p.Denom, n: 3}, with(l, p.Owner, p.Denom, p.Amount+3), api.OK)
		for _, owner := range []string{p.Owner + "\x00", p.Owner[:len(p.Owner)-1] + "\x00", p.Owner + "\xff"} {
			check(t, call{name: "Mint", l: l, owner: owner, denom: p.Denom, n: 3}, with(l, owner, p.Denom, 3), api.OK)
		}
		for _, denom := range []string{p.Denom + "\x00", "\x00", "\xff"} {
			check(t, call{name: "Mint", l: l, owner: p.Owner, denom: denom, n: math.MaxUint64}, with(l, p.Owner, denom, math.MaxUint64), api.OK)
		}
	}
	check(t, call{name: "Mint", owner: "ann", denom: "gold", n: 5}, []api.Purse{{Owner: "ann", Denom: "gold", Amount: 5}}, api.OK)
	check(t, call{name: "Mint", owner: "ann", denom: "gold", n: math.MaxUint64}, []api.Purse{{Owner: "ann", Denom: "gold", Amount: math.MaxUint64}}, api.OK)
	check(t, call{name: "Mint", owner: "ann", denom: "gold"}, nil, api.OK)
}

// L1: up to 2^64 - 1 of one denom, whoever has it, and no more.
func TestMintAtTheEdge(t *testing.T) {
	l := []api.Purse{{Owner: "ann", Denom: "gold", Amount: 10}, {Owner: "ann", Denom: "tin", Amount: math.MaxUint64}, {Owner: "bob", Denom: "gold", Amount: math.MaxUint64 - 20}}
	for _, who := range []string{"ann", "bob", "eve"} {
		had := Amount(l, who, "gold")
		for _, n := range []uint64{1, 9, 10} {
			check(t, call{name: "Mint", l: l, owner: who, denom: "gold", n: n}, with(l, who, "gold", had+n), api.OK)
		}
		for _, n := range []uint64{11, 12, 30, 1 << 63, math.MaxUint64} {
			check(t, call{name: "Mint", l: l, owner: who, denom: "gold", n: n}, nil, api.ErrRange)
		}
		check(t, call{name: "Mint", l: l, owner: who, denom: "tin", n: 1}, nil, api.ErrRange)
	}
	over := with(l, "eve", "gold", 30)
	for _, who := range []string{"ann", "zed"} {
		check(t, call{name: "Mint", l: over, owner: who, denom: "gold", n: 1}, nil, api.ErrRange)
		check(t, call{name: "Mint", l: over, owner: who, denom: "gold"}, over, api.OK)
	}
	check(t, call{name: "Mint", l: over, owner: "zed", denom: "iron", n: math.MaxUint64}, with(over, "zed", "iron", math.MaxUint64), api.OK)
}

// L1: as many purses as may be, and which error comes first.
func TestMintAmongMany(t *testing.T) {
	for count, want := range map[int]api.Errno{0: api.OK, 58: api.OK, 59: api.OK, 60: api.ErrMany} {
		l := many(count)
		for _, at := range [][2]string{{"ann", "gold"}, {"o00", "tin"}, {"zed", "gold"}} {
			x := call{name: "Mint", l: l, owner: at[0], denom: at[1], n: 1}
			if want != api.OK {
				check(t, x, nil, want)
			} else {
				check(t, x, with(l, at[0], at[1], 1), api.OK)
			}
			x.n = 0
			check(t, x, l, api.OK)
		}
	}
	full := many(60)
	for _, p := range full {
		check(t, call{name: "Mint", l: full, owner: p.Owner, denom: "gold", n: 4}, with(full, p.Owner, "gold", 5), api.OK)
	}
	check(t, call{name: "Mint", l: full, owner: "ann", denom: "gold", n: math.MaxUint64 - 60}, nil, api.ErrMany)
	check(t, call{name: "Mint", l: full, owner: "ann", denom: "gold", n: math.MaxUint64 - 59}, nil, api.ErrRange)
	check(t, call{name: "Mint", l: full, denom: "gold", n: math.MaxUint64}, nil, api.ErrMuch)
	check(t, call{name: "Mint", l: full, owner: "ann", n: math.MaxUint64}, nil, api.ErrMuch)
}

// L1: part of a purse, all of it, and more than there is.
func TestBurn(t *testing.T) {
	l := sample()
	for _, p := range l {
		for _, n := range []uint64{0, 1, p.Amount - 1, p.Amount} {
			check(t, call{name: "Burn", l: l, owner: p.Owner, denom: p.Denom, n: n}, with(l, p.Owner, p.Denom, p.Amount-n), api.OK)
		}
		for _, n := range []uint64{p.Amount + 1, math.MaxUint64} {
			check(t, call{name: "Burn", l: l, owner: p.Owner, denom: p.Denom, n: n}, nil, api.ErrFit)
		}
	}
	for _, none := range [][2]string{{"ann", "tin"}, {"eve", "gold"}, {"gold", "ann"}} {
		for _, l := range [][]api.Purse{l, nil, many(60)} {
			check(t, call{name: "Burn", l: l, owner: none[0], denom: none[1]}, l, api.OK)
			check(t, call{name: "Burn", l: l, owner: none[0], denom: none[1], n: 1}, nil, api.ErrFit)
		}
	}
	one := []api.Purse{{Owner: "ann", Denom: "gold", Amount: math.MaxUint64}}
	check(t, call{name: "Burn", l: one, owner: "ann", denom: "gold", n: math.MaxUint64}, nil, api.OK)
	check(t, call{name: "Burn", l: one, owner: "ann", denom: "gold", n: math.MaxUint64 - 1}, with(one, "ann", "gold", 1), api.OK)
	// What is beyond all telling in all can still be burned.
	over := with(one, "bob", "gold", 7)
	check(t, call{name: "Burn", l: over, owner: "bob", denom: "gold", n: 2}, with(over, "bob", "gold", 5), api.OK)
	check(t, call{name: "Burn", l: over, n: 1}, nil, api.ErrMuch)
}

// L1: out of one purse into another one, or into itself.
func TestMove(t *testing.T) {
	l := sample()
	for _, to := range []string{"#0", "an", "bob", "eve", "zed"} {
		for _, n := range []uint64{0, 1, 9, 10} {
			want := with(with(l, "ann", "gold", 10-n), to, "gold", Amount(l, to, "gold")+n)
			check(t, call{name: "Move", l: l, owner: "ann", to: to, denom: "gold", n: n}, want, api.OK)
		}
		for _, n := range []uint64{11, math.MaxUint64} {
			check(t, call{name: "Move", l: l, owner: "ann", to: to, denom: "gold", n: n}, nil, api.ErrFit)
		}
	}
	for _, n := range []uint64{0, 1, 10} {
		check(t, call{name: "Move", l: l, owner: "ann", to: "ann", denom: "gold", n: n}, l, api.OK)
	}
	check(t, call{name: "Move", l: l, owner: "ann", to: "ann", denom: "gold", n: 11}, nil, api.ErrFit)
	check(t, call{name: "Move", l: l, owner: "eve", to: "zed", denom: "gold"}, l, api.OK)
	check(t, call{name: "Move", l: l, owner: "eve", to: "zed", denom: "gold", n: 1}, nil, api.ErrFit)
	// All that there may be is moved: what is burned makes room for it.
	whole := []api.Purse{{Owner: "ann", Denom: "gold", Amount: math.MaxUint64}}
	check(t, call{name: "Move", l: whole, owner: "ann", to: "bob", denom: "gold", n: math.MaxUint64}, []api.Purse{{Owner: "bob", Denom: "gold", Amount: math.MaxUint64}}, api.OK)
}

// L1: Burn's errors, then Mint's, of what Burn has left.
func TestErrorsOfMove(t *testing.T) {
	full := with(many(60), "o07", "gold", 2)
	check(t, call{name: "Move", l: full, owner: "o07", to: "ann", denom: "gold", n: 1}, nil, api.ErrMany)
	check(t, call{name: "Move", l: full, owner: "o07", to: "ann", denom: "gold", n: 2}, with(with(full, "o07", "gold", 0), "ann", "gold", 2), api.OK)
	check(t, call{name: "Move", l: full, owner: "o07", to: "o06", denom: "gold", n: 1}, with(many(60), "o06", "gold", 2), api.OK)
	check(t, call{name: "Move", l: full, owner: "o07", to: "o07", denom: "gold", n: 1}, full, api.OK)
	check(t, call{name: "Move", l: full, owner: "o07", to: "ann", denom: "gold"}, full, api.OK)
	check(t, call{name: "Move", l: full, owner: "", to: "", denom: "gold", n: 9}, nil, api.ErrMuch)
	check(t, call{name: "Move", l: full, owner: "o07", to: "", denom: "gold", n: 9}, nil, api.ErrFit)
	check(t, call{name: "Move", l: full, owner: "o07", to: "", denom: "gold", n: 1}, nil, api.ErrMuch)
	check(t, call{name: "Move", l: full, owner: "o07", to: "", denom: "gold"}, nil, api.ErrMuch)
	check(t, call{name: "Move", l: full, owner: "o07", to: "ann", denom: "", n: 1}, nil, api.ErrMuch)
	// What is beyond all telling in all is not minted again.
	over := with(full, "o08", "gold", math.MaxUint64)
	for _, n := range []uint64{1, 2} {
		for _, to := range []string{"o07", "o09", "ann"} {
			check(t, call{name: "Move", l: over, owner: "o07", to: to, denom: "gold", n: n}, nil, api.ErrRange)
			check(t, call{name: "Move", l: over, owner: "o08", to: to, denom: "gold", n: math.MaxUint64 - n}, nil, api.ErrRange)
		}
	}
	check(t, call{name: "Move", l: over, owner: "o07", to: "ann", denom: "gold"}, over, api.OK)
}

// L1 to L3: of what comes by chance the same comes as by the map; Amount and Supply, too.
func TestAgainstTheReference(t *testing.T) {
	r := rand.New(rand.NewSource(12))
	seen := map[string]map[api.Errno]int{}
	for range 60000 {
		x := invented(r.Intn)
		_, err := checkCall(t, x)
		if seen[x.name] == nil {
			seen[x.name] = map[api.Errno]int{}
		}
		seen[x.name][err]++
		checkSums(t, x)
	}
	for _, name := range faces {
		for _, err := range []api.Errno{api.OK, api.ErrMuch, api.ErrFit, api.ErrRange, api.ErrMany} {
			never := name == "Burn" && err != api.OK && err != api.ErrMuch && err != api.ErrFit || name == "Mint" && err == api.ErrFit
			if (seen[name][err] == 0) != never {
				t.Errorf("%s: %d came %d times", name, err, seen[name][err])
			}
		}
	}
}

func checkSums(t *testing.T, x call) {
	t.Helper()
	m := kept(x.l)
	if got := Amount(x.l, x.owner, x.denom); got != m.amount(x.owner, x.denom).Uint64() {
		t.Errorf("%+v: of Amount %d comes", x, got)
	}
	want, over := m.supply(x.denom), false
	if tooGreat(want) {
		want, over = want.SetUint64(0), true
	}
	if got, isOver := Supply(x.l, x.denom); got != want.Uint64() || isOver != over {
		t.Errorf("%+v: of Supply %d and %v come", x, got, isOver)
	}
}
