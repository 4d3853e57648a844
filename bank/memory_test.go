package bank

import (
	"bytes"
	"fmt"
	"math"
	"math/rand"
	"reflect"
	"slices"
	"strings"
	"sync"
	"testing"

	"landbridge/api"
)

// goodCalls are one or more of each face that make no error, and such that leave all as it was.
func goodCalls() []call {
	l := sample()
	return []call{
		{name: "Mint", l: l, owner: "ann", denom: "gold", n: 2},
		{name: "Mint", l: l, owner: "eve", denom: "gold", n: 2},
		{name: "Mint", l: l, owner: "eve", denom: "gold"},
		{name: "Burn", l: l, owner: "ann", denom: "gold", n: 2},
		{name: "Burn", l: l, owner: "ann", denom: "gold", n: 10},
		{name: "Burn", l: l, owner: "ann", denom: "gold"},
		{name: "Burn", l: l, owner: "eve", denom: "gold"},
		{name: "Move", l: l, owner: "ann", to: "eve", denom: "gold", n: 2},
		{name: "Move", l: l, owner: "ann", to: "bob", denom: "gold"},
		{name: "Move", l: l, owner: "ann", to: "ann", denom: "gold", n: 10},
		{name: "Leave", l: l, owner: "ann", denom: "gold", n: 2},
		{name: "Leave", l: l, owner: "ann", denom: "0/gold", n: 2},
		{name: "Back", l: l, owner: "ann", denom: "gold", n: 2},
		{name: "Back", l: l, owner: "ann", denom: "0/gold", n: 2},
		{name: "Come", l: l, to: "ann", denom: "gold", n: 2, ch: 0, other: 4},
		{name: "Come", l: l, to: "ann", denom: "4/gold", n: 2, ch: 0, other: 4},
	}
}

// Z2: neither what is handed in nor the room behind it is changed, and that room means nothing.
func TestArgumentsAreOnlyRead(t *testing.T) {
	r := rand.New(rand.NewSource(3))
	calls := goodCalls()
	for range 3000 {
		calls = append(calls, invented(r.Intn))
	}
	for _, x := range calls {
		// Room for a purse that would stand there, were it looked at.
		all := append(slices.Clone(x.l), api.Purse{Owner: "zzz", Denom: x.denom, Amount: 9}, api.Purse{Owner: x.owner, Denom: x.denom, Amount: 9})
		x.l = all[:len(x.l):len(all)]
		before := slices.Clone(all)
		checkCall(t, x)
		checkSums(t, x)
		if !slices.Equal(all, before) {
			t.Errorf("%+v: an argument or its spare room has changed", x)
		}
	}
	good := written("gold", uint64(5), "ann", "bob")
	for n := range len(good) + 1 {
		b := append(slices.Clone(good), 7)[:n]
		checkParse(t, "with room behind", b, map[bool]api.Transfer{true: {Denom: "gold", Amount: 5, Sender: "ann", Reader: "bob"}}[n == len(good)], map[bool]api.Errno{false: api.ErrForm}[n == len(good)])
		if all := b[:len(good)+1]; !bytes.Equal(all, append(slices.Clone(good), 7)) {
			t.Error("an argument or its spare room has changed")
		}
	}
}

// share answers whether two lists have memory in common, spare room included.
func share[T any](a, b []T) bool {
	from := func(l []T) uintptr { return reflect.ValueOf(l).Pointer() }
	to := func(l []T) uintptr { return from(l) + uintptr(cap(l))*reflect.TypeFor[T]().Size() }
	return from(a) < to(b) && from(b) < to(a)
}

// Z2: answers share no memory with arguments or with other answers, spare room included.
func TestAnswersAreNewMemory(t *testing.T) {
	for _, x := range goodCalls() {
		x.l = slices.Concat(x.l, make([]api.Purse, 5))[:len(x.l)]
		first, err := checkCall(t, x)
		second, _ := x.do()
		if err != api.OK {
			t.Fatalf("%+v: %d comes", x, err)
		}
		if share(first, x.l) || share(first, second) {
			t.Errorf("%+v: an answer is shared", x)
		}
		clear(first[:cap(first)])
		if third, _ := checkCall(t, x); !slices.Equal(third, second) {
			t.Errorf("%+v: an answer is kept", x)
		}
		clear(x.l)
		if want, _ := (call{name: x.name, l: sample(), owner: x.owner, to: x.to, denom: x.denom, n: x.n, ch: x.ch, other: x.other}).reference(); !slices.Equal(second, want) {
			t.Errorf("%+v: an answer hangs on what was handed in", x)
		}
	}
	x := api.Transfer{Denom: "gold", Amount: 5, Sender: "ann", Reader: "bob"}
	first, second := Bytes(x), Bytes(x)
	if share(first, second) {
		t.Error("bytes are shared")
	}
	got, _ := Parse(first)
	clear(first[:cap(first)])
	if got != x || !bytes.Equal(Bytes(x), second) {
		t.Error("a transfer hangs on what it was read from")
	}
}

// Z3
func TestNilAndEmptyAreTheSame(t *testing.T) {
	for _, x := range goodCalls() {
		for _, none := range [][]api.Purse{nil, {}, sample()[:0]} {
			x.l = none
			checkCall(t, x)
			checkSums(t, x)
		}
	}
	for _, none := range [][]byte{nil, {}} {
		refusedBytes(t, "nothing", none, api.ErrForm)
	}
}

// whatever are purses that are not right.
func whatever() [][]api.Purse {
	turned := sample()
	slices.Reverse(turned)
	zero := sample()
	zero[5].Amount = 0
	return [][]api.Purse{
		turned, zero,
		slices.Repeat(sample(), 3),
		slices.Repeat([]api.Purse{{Owner: "ann", Denom: "gold", Amount: math.MaxUint64}}, 100),
		make([]api.Purse, 61),
		make([]api.Purse, 1000),
		many(100),
		{{}, {Owner: strings.Repeat("x", 1000), Denom: "gold", Amount: 1}, {Owner: "ann", Denom: "", Amount: 1}},
	}
}

// Z1 and L1: of purses that are not right, and of channels below 0, nothing is promised but that nothing panics, and that what is handed in stays as it was.
func TestWhateverIsHandedIn(t *testing.T) {
	amounts := []uint64{0, 1, 5, 1 << 63, math.MaxUint64}
	names := []string{"", "ann", "#-1", "#0", "zed", strings.Repeat("x", 1<<16)}
	denoms := []string{"", "gold", "-1/gold", "-/gold", fmt.Sprint(math.MinInt, "/gold"), strings.Repeat("y", 1<<16)}
	for _, l := range append(whatever(), sample(), nil) {
		before := slices.Clone(l)
		for _, who := range names {
			for _, what := range denoms {
				Amount(l, who, what)
				Supply(l, what)
				for _, name := range faces {
					for i, ch := range []int{math.MinInt, -1, 0, math.MaxInt} {
						x := call{name: name, l: l, owner: who, to: names[i+1], denom: what, n: amounts[(i+len(who))%len(amounts)], ch: ch, other: -ch}
						if got, err := x.do(); err != api.OK && len(got) > 0 {
							t.Fatalf("%+v: beside an error %v comes", x, got)
						}
					}
				}
			}
		}
		if !slices.Equal(l, before) {
			t.Fatal("an argument has changed")
		}
	}
}

// Z1: the same answer each time, and calls that run side by side don't disturb each other.
func TestCallsSideBySide(t *testing.T) {
	calls := goodCalls()
	var all sync.WaitGroup
	for range 8 {
		all.Go(func() {
			for range 30 {
				for _, x := range calls {
					checkCall(t, x)
					checkSums(t, x)
				}
			}
		})
	}
	all.Wait()
}

// FuzzBank holds all calls with purses against the map, of what bytes tell of.
func FuzzBank(f *testing.F) {
	f.Add([]byte{})
	f.Add([]byte("this and that of gold"))
	f.Add(bytes.Repeat([]byte{7, 0, 200, 31, 6}, 40))
	f.Fuzz(func(t *testing.T, b []byte) {
		pick := func(n int) int {
			if len(b) == 0 {
				return n - 1
			}
			out := int(b[0]) % n
			b = b[1:]
			return out
		}
		x := invented(pick)
		checkCall(t, x)
		checkSums(t, x)
	})
}

// FuzzParse: what is a transfer has its bytes, and no others.
func FuzzParse(f *testing.F) {
	f.Add([]byte{})
	f.Add(written("gold", uint64(5), "ann", "bob"))
	f.Add(written("gold", uint64(0), "", strings.Repeat("x", 41)))
	f.Add(written("gold", "ann", uint64(5), "bob"))
	f.Fuzz(func(t *testing.T, b []byte) {
		x, err := Parse(b)
		switch {
		case err == api.OK:
			if !bytes.Equal(Bytes(x), b) || noWord(x.Denom, x.Sender, x.Reader) || x.Amount == 0 {
				t.Errorf("%x: %+v comes", b, x)
			}
		case x != api.Transfer{}:
			t.Errorf("%x: beside %d %+v comes", b, err, x)
		}
	})
}
