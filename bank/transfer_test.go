package bank

import (
	"bytes"
	"fmt"
	"math"
	"math/rand"
	"slices"
	"strings"
	"testing"

	"landbridge/api"
)

func checkBytes(t *testing.T, x api.Transfer, want []byte) {
	t.Helper()
	if got := Bytes(x); !bytes.Equal(got, want) {
		t.Errorf("%+v: %x comes, not %x", x, got, want)
	}
}

func checkParse(t *testing.T, note string, b []byte, want api.Transfer, wantErr api.Errno) {
	t.Helper()
	if got, err := Parse(b); got != want || err != wantErr {
		t.Errorf("%s: %+v and %d come, not %+v and %d", note, got, err, want, wantErr)
	}
}

// refusedBytes is for what is no transfer.
func refusedBytes(t *testing.T, note string, b []byte, want api.Errno) {
	t.Helper()
	checkParse(t, note, b, api.Transfer{}, want)
}

// L2: there and back.
func TestBytesOfTransfers(t *testing.T) {
	checkBytes(t, api.Transfer{Denom: "gold", Amount: 300, Sender: "ann", Reader: "bo"}, []byte{4, 1, 4, 'g', 'o', 'l', 'd', 0, 0xac, 2, 1, 3, 'a', 'n', 'n', 1, 2, 'b', 'o'})
	checkBytes(t, api.Transfer{}, []byte{4, 1, 0, 0, 0, 1, 0, 1, 0})
	every := make([]byte, 256)
	for i := range every {
		every[i] = byte(i)
	}
	for _, n := range []uint64{1, 127, 128, 300, 1<<32 + 1, 1 << 63, math.MaxUint64} {
		for at := 0; at < len(every); at += 32 {
			x := api.Transfer{Denom: string(every[at : at+32]), Amount: n, Sender: "#0", Reader: "é\x00"}
			checkBytes(t, x, written(x.Denom, n, x.Sender, x.Reader))
			checkParse(t, "there and back", Bytes(x), x, api.OK)
		}
	}
}

// L2: as much as Write takes, and nothing of what is more, wherever it stands.
func TestBytesOfTooMuch(t *testing.T) {
	// Beside a text of more than 2^14 bytes: how many pieces there are, four kinds, the lengths in three, one and one bytes, a number in one.
	const room = 20000 - 1 - 4 - 3 - 1 - 1 - 1
	for n, fits := range map[int]bool{room - 1: true, room: true, room + 1: false, room + 2: false, 1 << 20: false} {
		long := strings.Repeat("x", n)
		for _, x := range []api.Transfer{{Denom: long}, {Sender: long}, {Reader: long}} {
			var want []byte
			if fits {
				want = written(x.Denom, x.Amount, x.Sender, x.Reader)
			}
			checkBytes(t, x, want)
			if fits {
				refusedBytes(t, "long", Bytes(x), api.ErrMuch)
			}
		}
	}
	third := strings.Repeat("x", 7000)
	checkBytes(t, api.Transfer{Denom: third, Sender: third, Reader: third}, nil)
	refusedBytes(t, "what is too much is nothing", Bytes(api.Transfer{Denom: third, Sender: third, Reader: third}), api.ErrForm)
}

// L2: Read's errors, then how many pieces of which kinds, then words, then the amount.
func TestParseOfNoTransfer(t *testing.T) {
	good := written("gold", uint64(5), "ann", "bob")
	checkParse(t, "good", good, api.Transfer{Denom: "gold", Amount: 5, Sender: "ann", Reader: "bob"}, api.OK)
	for n := range len(good) {
		refusedBytes(t, "cut off", good[:n], api.ErrForm)
	}
	refusedBytes(t, "something behind", append(slices.Clone(good), 0), api.ErrForm)
	refusedBytes(t, "longer than need be", []byte{4, 1, 1, 'g', 0, 0x81, 0, 1, 1, 'a', 1, 1, 'b'}, api.ErrForm)
	refusedBytes(t, "another kind", []byte{4, 1, 1, 'g', 2, 1, 1, 1, 'a', 1, 1, 'b'}, api.ErrForm)
	refusedBytes(t, "as much as may be read", make([]byte, 20000), api.ErrForm)
	refusedBytes(t, "more than may be read", make([]byte, 20001), api.ErrMuch)
	refusedBytes(t, "more than may be read, and good at first", append(slices.Clone(good), make([]byte, 20000)...), api.ErrMuch)
	for _, l := range [][]any{
		{}, {"gold"}, {"gold", uint64(5)}, {"gold", uint64(5), "ann"}, {"gold", uint64(5), "ann", "bob", "eve"}, {"gold", uint64(5), "ann", "bob", uint64(5)},
		{uint64(5), "gold", "ann", "bob"}, {"gold", "ann", "bob", uint64(5)}, {"gold", "ann", uint64(5), "bob"},
	} {
		refusedBytes(t, fmt.Sprint(l), written(l...), api.ErrForm)
	}
	// All ways in which four pieces may be numbers or bytes, also such that would be wrong otherwise.
	for kinds := range 16 {
		for _, word := range []string{"", "x", strings.Repeat("x", 41)} {
			for _, n := range []uint64{0, 1} {
				l := []any{word, word, word, word}
				for i := range l {
					if kinds>>i&1 > 0 {
						l[i] = n
					}
				}
				if kinds != 2 {
					refusedBytes(t, fmt.Sprint(l), written(l...), api.ErrForm)
				}
			}
		}
	}
}

// L2: words of each length, at each place, with and without an amount.
func TestWordsOfTransfers(t *testing.T) {
	for word, bad := range words() {
		if len(word) > 1000 {
			continue
		}
		for _, x := range []api.Transfer{{Denom: word, Sender: "s", Reader: "r"}, {Denom: "d", Sender: word, Reader: "r"}, {Denom: "d", Sender: "s", Reader: word}} {
			for _, n := range []uint64{0, 1, math.MaxUint64} {
				x.Amount = n
				b := Bytes(x)
				switch {
				case bad:
					refusedBytes(t, fmt.Sprintf("%d bytes", len(word)), b, api.ErrMuch)
				case n == 0:
					refusedBytes(t, "0 of it", b, api.ErrRange)
				default:
					checkParse(t, fmt.Sprintf("%d bytes", len(word)), b, x, api.OK)
				}
			}
		}
	}
}

// L3: which names begin as what came over a channel, and which only look like it.
func TestWhatCame(t *testing.T) {
	for _, one := range []struct {
		denom string
		ch    int
		came  bool
	}{
		{"0/gold", 0, true}, {"0/gold", 1, false}, {"gold", 0, false}, {"1/gold", 0, false}, {"00/gold", 0, false}, {" 0/gold", 0, false},
		{"10/gold", 0, false}, {"10/gold", 1, false}, {"10/gold", 10, true}, {"1/gold", 10, false}, {"0/1/gold", 0, true}, {"0/1/gold", 1, false},
		{"0/0/gold", 0, true}, {"0", 0, false}, {"0/", 0, true}, {"/0/gold", 0, false}, {"/", 0, false}, {"0gold", 0, false}, {"#0/gold", 0, false},
		{"0.gold", 0, false}, {"01/gold", 1, false}, {"+1/gold", 1, false}, {"1000000000000/gold", 1000000000000, true}, {"0//", 0, true},
		{fmt.Sprint(math.MaxInt, "/"), math.MaxInt, true},
	} {
		safe := fmt.Sprint("#", one.ch)
		l := []api.Purse{{Owner: safe, Denom: one.denom, Amount: 20}, {Owner: "ann", Denom: one.denom, Amount: 10}}
		burned, moved := with(l, "ann", one.denom, 7), with(with(l, "ann", one.denom, 7), safe, one.denom, 23)
		minted, back := with(l, "ann", one.denom, 13), with(with(l, "ann", one.denom, 13), safe, one.denom, 17)
		x := call{l: l, owner: "ann", to: "eve", denom: one.denom, n: 3, ch: one.ch, other: 77}
		leave, home := moved, back
		if one.came {
			leave, home = burned, minted
		}
		x.name = "Leave"
		check(t, x, leave, api.OK)
		x.name = "Back"
		check(t, x, home, api.OK)
		x.name = "Come"
		check(t, x, with(l, "eve", fmt.Sprintf("%d/%s", one.ch, one.denom), 3), api.OK)
		checkHome(t, one.denom, one.ch, one.came)
	}
}

// checkHome is for what comes over channel 5, which is ch on the other chain: if it came over that one, it came from here.
func checkHome(t *testing.T, denom string, ch int, came bool) {
	t.Helper()
	_, called, _ := strings.Cut(denom, "/")
	l := []api.Purse{{Owner: "ann", Denom: "gold", Amount: 10}}
	if called != "" {
		l = with(l, "#5", called, 20)
	}
	x := call{name: "Come", l: l, owner: "ann", to: "eve", denom: denom, n: 3, ch: 5, other: ch}
	switch {
	case !came:
		check(t, x, with(l, "eve", "5/"+denom, 3), api.OK)
	case called == "":
		check(t, x, nil, api.ErrMuch)
	default:
		check(t, x, with(with(l, "#5", called, 17), "eve", called, 3), api.OK)
	}
}

// L3: safes begin with a sign that others begin with, too; who merely has it begins otherwise.
func TestWhatBeginsAsSafe(t *testing.T) {
	for owner, want := range map[string]bool{
		"#": true, "#0": true, "#10": true, "#x": true, "##": true, "#" + strings.Repeat("x", 1<<16): true,
		"": false, "0": false, "ann": false, "0#": false, " #0": false, "\x00#": false, "\"": false, "$0": false, "\uff03": false,
	} {
		if got := BeginsAsSafe(owner); got != want {
			t.Errorf("%.50q: %v comes", owner, got)
		}
	}
	for _, ch := range []int{0, 7, 10, api.MaxNum} {
		l, err := Leave([]api.Purse{{Owner: "ann", Denom: "gold", Amount: 1}}, ch, api.Transfer{Denom: "gold", Amount: 1, Sender: "ann", Reader: "bob"})
		if err != api.OK || len(l) != 1 || !BeginsAsSafe(l[0].Owner) {
			t.Errorf("channel %d: %v and %d come", ch, l, err)
		}
	}
}

// L3: all of the sender's, of the safe's, and more than there is.
func TestHowMuchLeavesAndComes(t *testing.T) {
	l := []api.Purse{{Owner: "#3", Denom: "gold", Amount: 8}, {Owner: "ann", Denom: "3/gold", Amount: 6}, {Owner: "ann", Denom: "gold", Amount: 5}}
	x := call{l: l, owner: "ann", to: "eve", ch: 3, other: 4}
	for _, one := range []struct {
		name, denom string
		n           uint64
		want        []api.Purse
	}{
		{"Leave", "gold", 5, with(with(l, "ann", "gold", 0), "#3", "gold", 13)},
		{"Leave", "gold", 6, nil},
		{"Leave", "3/gold", 6, with(l, "ann", "3/gold", 0)},
		{"Leave", "3/gold", 7, nil},
		{"Back", "gold", 8, with(with(l, "#3", "gold", 0), "ann", "gold", 13)},
		{"Back", "gold", 9, nil},
		{"Back", "3/gold", 7, with(l, "ann", "3/gold", 13)},
		{"Come", "4/gold", 8, with(with(l, "#3", "gold", 0), "eve", "gold", 8)},
		{"Come", "4/gold", 9, nil},
		{"Come", "4/3/gold", 1, nil},
		{"Come", "gold", 9, with(l, "eve", "3/gold", 9)},
		{"Come", "3/gold", 9, with(l, "eve", "3/3/gold", 9)},
	} {
		x.name, x.denom, x.n = one.name, one.denom, one.n
		if one.want == nil {
			check(t, x, nil, api.ErrFit)
		} else {
			check(t, x, one.want, api.OK)
		}
		x.n = 0
		if _, err := checkCall(t, x); err != api.OK {
			t.Errorf("%s of none of %s: %d comes", x.name, x.denom, err)
		}
	}
	x.name, x.denom, x.n = "Come", "gold", math.MaxUint64-5
	check(t, x, nil, api.ErrRange)
	x.n--
	check(t, x, with(l, "eve", "3/gold", math.MaxUint64-6), api.OK)
	x.name, x.denom, x.n = "Back", "3/gold", math.MaxUint64-5
	check(t, x, nil, api.ErrRange)
}

// L3: a name grows where it comes, and must still be a word; who sends and who reads must be one where they are asked for, and nowhere else.
func TestWordsOfWhatLeavesAndComes(t *testing.T) {
	for n, want := range map[int]api.Errno{37: api.OK, 38: api.OK, 39: api.ErrMuch, 40: api.ErrMuch, 41: api.ErrMuch} {
		long := strings.Repeat("y", n)
		var minted []api.Purse
		if want == api.OK {
			minted = []api.Purse{{Owner: "eve", Denom: "3/" + long, Amount: 2}}
		}
		check(t, call{name: "Come", to: "eve", denom: long, n: 2, ch: 3, other: 4}, minted, want)
		// A channel of two digits takes one more.
		if n == 37 || n == 38 {
			_, err := checkCall(t, call{name: "Come", to: "eve", denom: long, n: 2, ch: 12, other: 4})
			if (err == api.OK) != (n == 37) {
				t.Errorf("%d bytes over 12: %d comes", n, err)
			}
		}
	}
	// At home a name is shorter again: more than a word comes, and a word is found.
	word := strings.Repeat("y", 40)
	check(t, call{name: "Come", l: []api.Purse{{Owner: "#3", Denom: word, Amount: 2}}, to: "eve", denom: "4/" + word, n: 2, ch: 3, other: 4}, []api.Purse{{Owner: "eve", Denom: word, Amount: 2}}, api.OK)
	l := []api.Purse{{Owner: "#3", Denom: "gold", Amount: 8}, {Owner: "ann", Denom: "3/gold", Amount: 6}, {Owner: "ann", Denom: "gold", Amount: 5}}
	for word, bad := range words() {
		for _, denom := range []string{"gold", "3/gold", "4/gold"} {
			for _, x := range []call{{name: "Leave", owner: word, to: "eve"}, {name: "Back", owner: word, to: "eve"}, {name: "Come", owner: "ann", to: word}} {
				x.l, x.denom, x.n, x.ch, x.other = l, denom, 1, 3, 4
				_, err := checkCall(t, x)
				if bad && err != api.ErrMuch && !(x.name == "Back" && denom == "4/gold") {
					t.Errorf("%s of %s by %d bytes: %d comes", x.name, denom, len(word), err)
				}
			}
			for _, x := range []call{{name: "Leave", owner: "ann", to: word}, {name: "Back", owner: "ann", to: word}, {name: "Come", owner: word, to: "eve"}} {
				x.l, x.denom, x.n, x.ch, x.other = l, denom, 1, 3, 4
				if _, err := checkCall(t, x); err != api.OK && denom != "4/gold" {
					t.Errorf("%s of %s, with %d bytes that mean nothing: %d comes", x.name, denom, len(word), err)
				}
			}
		}
	}
}

// flight is what has left over a channel, and has not yet arrived.
type flight struct {
	side, ch int
	t        api.Transfer
}

// between tells which channel of the other side a channel leads to; no two numbers are the same on both ends but 2's.
func between(ch int) int { return []int{1, 0, 2}[ch] }

// voyage is two banks, and what is on its way between them.
type voyage struct {
	banks [2][]api.Purse
	away  []flight
}

// leave sends by chance what somebody has; what is refused changes nothing.
func (v *voyage) leave(t *testing.T, pick func(n int) int) {
	t.Helper()
	side, ch := pick(2), pick(3)
	l := v.banks[side]
	p := l[pick(len(l))]
	if strings.HasPrefix(p.Owner, "#") {
		return
	}
	x := call{name: "Leave", l: l, owner: p.Owner, to: []string{"ann", "bob", "eve"}[pick(3)], denom: p.Denom, n: 1 + uint64(pick(int(p.Amount))), ch: ch}
	after, err := checkCall(t, x)
	if err != api.OK {
		return
	}
	again, err := Back(after, ch, x.transfer())
	if err != api.OK || !slices.Equal(again, l) {
		t.Errorf("%+v: what comes back at once is %v and %d", x, again, err)
	}
	v.banks[side] = after
	v.away = append(v.away, flight{side, ch, x.transfer()})
}

// arrive lets something arrive by chance, or, if it is refused, or by chance, come back.
func (v *voyage) arrive(t *testing.T, pick func(n int) int) {
	t.Helper()
	if len(v.away) == 0 {
		return
	}
	at := pick(len(v.away))
	f := v.away[at]
	x := call{name: "Come", l: v.banks[1-f.side], owner: f.t.Sender, to: f.t.Reader, denom: f.t.Denom, n: f.t.Amount, ch: between(f.ch), other: f.ch}
	after, err := checkCall(t, x)
	if err == api.OK && pick(4) > 0 {
		v.banks[1-f.side] = after
	} else {
		x.name, x.l, x.ch = "Back", v.banks[f.side], f.ch
		if after, err = checkCall(t, x); err != api.OK {
			// Its purse may have been filled up by another one's: it comes back later.
			return
		}
		v.banks[f.side] = after
	}
	v.away = slices.Delete(v.away, at, at+1)
}

// awayOf is how much of that is on its way over a channel of a side.
func (v *voyage) awayOf(side, ch int, denom string) (sum uint64) {
	for _, f := range v.away {
		if f.side == side && f.ch == ch && f.t.Denom == denom {
			sum += f.t.Amount
		}
	}
	return sum
}

// checkSafes: what a safe keeps is just what stands for it on the other chain, or is on its way there or home.
func (v *voyage) checkSafes(t *testing.T) {
	t.Helper()
	for side := range 2 {
		for ch := range 3 {
			for _, denom := range v.denoms() {
				voucher := fmt.Sprintf("%d/%s", between(ch), denom)
				stands, _ := Supply(v.banks[1-side], voucher)
				want := stands + v.awayOf(side, ch, denom) + v.awayOf(1-side, between(ch), voucher)
				if _, came := origin(denom, ch); came {
					// It is burned, not kept.
					want = stands
				}
				if got := Amount(v.banks[side], fmt.Sprintf("#%d", ch), denom); got != want {
					t.Fatalf("side %d keeps %d of %s for channel %d, not %d", side, got, denom, ch, want)
				}
			}
		}
	}
	for denom, side := range map[string]int{"gold": 0, "silver": 1} {
		if sum, _ := Supply(v.banks[side], denom); sum != 1000 {
			t.Fatalf("there are %d of %s", sum, denom)
		}
		if sum, _ := Supply(v.banks[1-side], denom); sum != 0 {
			t.Fatalf("there are %d of %s on the other chain", sum, denom)
		}
	}
}

func (v *voyage) denoms() []string {
	var out []string
	for _, l := range v.banks {
		for _, p := range l {
			out = append(out, p.Denom)
		}
	}
	slices.Sort(out)
	return slices.Compact(out)
}

// L1 to L3: nothing makes gold, and no voucher stands without it.
func TestNothingMakesGold(t *testing.T) {
	full, deep := 0, 0
	for seed := range 12 {
		r := rand.New(rand.NewSource(int64(seed)))
		v := voyage{banks: [2][]api.Purse{{{Owner: "ann", Denom: "gold", Amount: 1000}}, {{Owner: "bob", Denom: "silver", Amount: 1000}}}}
		for range 400 {
			v.leave(t, r.Intn)
			if r.Intn(3) > 0 {
				v.arrive(t, r.Intn)
			}
			v.checkSafes(t)
			full += len(v.banks[0]) / 60
		}
		for _, denom := range v.denoms() {
			deep = max(deep, strings.Count(denom, "/"))
		}
	}
	if full == 0 || deep < 3 {
		t.Errorf("too little happens: purses were full %d times, names have at most %d steps", full, deep)
	}
}

// L3: out over two channels, and home the same way, step by step.
func TestThereAndHome(t *testing.T) {
	a, b := []api.Purse{{Owner: "ann", Denom: "gold", Amount: 10}}, []api.Purse(nil)
	step := func(l *[]api.Purse, want ...api.Purse) func(got []api.Purse, err api.Errno) {
		return func(got []api.Purse, err api.Errno) {
			t.Helper()
			if err != api.OK || !slices.Equal(got, want) {
				t.Fatalf("%v and %d come, not %v", got, err, want)
			}
			*l = got
		}
	}
	out := api.Transfer{Denom: "gold", Amount: 4, Sender: "ann", Reader: "bob"}
	on := api.Transfer{Denom: "7/gold", Amount: 3, Sender: "bob", Reader: "eve"}
	safe, rest := api.Purse{Owner: "#2", Denom: "gold", Amount: 4}, api.Purse{Owner: "ann", Denom: "gold", Amount: 6}
	step(&a, safe, rest)(Leave(a, 2, out))
	step(&b, api.Purse{Owner: "bob", Denom: "7/gold", Amount: 4})(Come(b, 7, 2, out))
	// Over another channel it is not at home: it is kept once more, and stands for what stands for it.
	step(&b, api.Purse{Owner: "#8", Denom: "7/gold", Amount: 3}, api.Purse{Owner: "bob", Denom: "7/gold", Amount: 1})(Leave(b, 8, on))
	step(&a, safe, rest, api.Purse{Owner: "eve", Denom: "3/7/gold", Amount: 3})(Come(a, 3, 8, on))
	back := api.Transfer{Denom: "3/7/gold", Amount: 3, Sender: "eve", Reader: "eve"}
	step(&a, safe, rest)(Leave(a, 3, back))
	step(&b, api.Purse{Owner: "bob", Denom: "7/gold", Amount: 1}, api.Purse{Owner: "eve", Denom: "7/gold", Amount: 3})(Come(b, 8, 3, back))
	home := api.Transfer{Denom: "7/gold", Amount: 3, Sender: "eve", Reader: "ann"}
	step(&b, api.Purse{Owner: "bob", Denom: "7/gold", Amount: 1})(Leave(b, 7, home))
	step(&a, api.Purse{Owner: "#2", Denom: "gold", Amount: 1}, api.Purse{Owner: "ann", Denom: "gold", Amount: 9})(Come(a, 2, 7, home))
}
