package seal

import (
	"bytes"
	"crypto/sha256"
	"encoding/binary"
	"math/big"
	"strconv"
	"strings"
	"sync"
	"testing"

	"landbridge/api"
)

func whole(n uint64) *big.Int { return new(big.Int).SetUint64(n) }

func referencePower(base, exponent, m uint64) uint64 {
	return new(big.Int).Exp(whole(base), whole(exponent), whole(m)).Uint64()
}

// referenceNumber is N of one run of bytes.
func referenceNumber(b []byte) uint64 {
	h := sha256.Sum256(b)
	return binary.BigEndian.Uint64(h[:])
}

// join lays texts, lists of bytes and numbers one behind the other.
func join(l ...any) []byte {
	var out []byte
	for _, x := range l {
		switch v := x.(type) {
		case string:
			out = append(out, v...)
		case []byte:
			out = append(out, v...)
		case uint64:
			out = binary.BigEndian.AppendUint64(out, v)
		}
	}
	return out
}

func referenceSecret(seed []byte) uint64 {
	return 1 + referenceNumber(join("key", seed))%(api.Order-1)
}

// sealBy is the seal that the secret x makes with k, for whichever key it is told to name.
func sealBy(key, x, k uint64, message []byte) api.Seal {
	r := referencePower(api.Base, k, api.Prime)
	e := referenceNumber(join(r, key, message)) % api.Order
	s := new(big.Int).Mul(whole(e), whole(x))
	s.Add(s, whole(k)).Mod(s, whole(api.Order))
	return api.Seal{R: r, S: s.Uint64()}
}

func seeds() [][]byte {
	out := [][]byte{nil, {}, {0}, {0, 0}, []byte("a"), []byte("ann"), bytes.Repeat([]byte{0xff}, 200)}
	for n := range 40 {
		out = append(out, []byte("seed "+strconv.Itoa(n)))
	}
	return out
}

func messages() [][]byte {
	return [][]byte{nil, {0}, []byte("m"), []byte("pay bob"), bytes.Repeat([]byte("long "), 100)}
}

func TestTheGroupIsWhatTheChapterLeansOn(t *testing.T) {
	if !whole(api.Prime).ProbablyPrime(20) || !whole(api.Order).ProbablyPrime(20) || api.Prime != 2*api.Order+1 {
		t.Error("Prime and Order are no such primes")
	}
	if power(api.Base, api.Order, api.Prime) != 1 {
		t.Error("Base is not of that order")
	}
}

// B1
func TestKeysOfKnownSeeds(t *testing.T) {
	for seed, want := range map[string]uint64{
		"":    974077722832402975,
		"a":   989415349059111807,
		"ann": 289819450576622104,
	} {
		if got := Key([]byte(seed)); got != want {
			t.Errorf("Key of %q: %d comes, not %d", seed, got, want)
		}
	}
}

// B1
func TestKeyIsThePowerOfItsSecret(t *testing.T) {
	for _, seed := range seeds() {
		want := referencePower(api.Base, referenceSecret(seed), api.Prime)
		if got := Key(seed); got != want {
			t.Errorf("Key of %q: %d comes, not %d", seed, got, want)
		}
	}
}

// B2
func TestKnownSeals(t *testing.T) {
	for _, c := range []struct {
		seed, message string
		want          api.Seal
	}{
		{"", "", api.Seal{R: 571963400515680736, S: 472626955470742981}},
		{"a", "m", api.Seal{R: 764011966490972835, S: 188198324796735572}},
		{"ann", "pay bob", api.Seal{R: 1085547667901414998, S: 409309371145922995}},
	} {
		if got := Sign([]byte(c.seed), []byte(c.message)); got != c.want {
			t.Errorf("Sign of %q by %q: %v comes, not %v", c.message, c.seed, got, c.want)
		}
	}
}

// B2, and B3 for what is as it should be.
func TestSealsAreMadeAsToldAndGood(t *testing.T) {
	for _, seed := range seeds() {
		x := referenceSecret(seed)
		for _, m := range messages() {
			k := 1 + referenceNumber(join("once", x, m))%(api.Order-1)
			got := Sign(seed, m)
			if want := sealBy(Key(seed), x, k, m); got != want {
				t.Errorf("Sign of %q by %q: %v comes, not %v", m, seed, got, want)
			}
			if !Good(Key(seed), m, got) {
				t.Errorf("the seal of %q by %q is not good", m, seed)
			}
		}
	}
}

// B3: whichever k it was made with, also with none at all.
func TestASealWithAnotherKIsGood(t *testing.T) {
	seed, m := []byte("a"), []byte("m")
	for _, k := range []uint64{0, 1, 2, 77, api.Order - 1} {
		if !Good(Key(seed), m, sealBy(Key(seed), referenceSecret(seed), k, m)) {
			t.Errorf("the seal with %d is not good", k)
		}
	}
}

// B3
func TestASealOfSomethingElseIsNotGood(t *testing.T) {
	for _, seed := range seeds() {
		key, m := Key(seed), []byte("m")
		s := Sign(seed, m)
		for name, good := range map[string]bool{
			"another key":              Good(Key([]byte("another")), m, s),
			"the key and one":          Good(key+1, m, s),
			"the key's negative":       Good(api.Prime-key, m, s),
			"another message":          Good(key, []byte("n"), s),
			"no message":               Good(key, nil, s),
			"a longer message":         Good(key, []byte("mm"), s),
			"R and one":                Good(key, m, api.Seal{R: s.R + 1, S: s.S}),
			"R's negative":             Good(key, m, api.Seal{R: api.Prime - s.R, S: s.S}),
			"S and one":                Good(key, m, api.Seal{R: s.R, S: s.S + 1}),
			"S less one":               Good(key, m, api.Seal{R: s.R, S: s.S - 1}),
			"R and S changed about":    Good(key, m, api.Seal{R: s.S, S: s.R}),
			"the seal without entries": Good(key, m, api.Seal{}),
			"a seal of the same seed":  Good(key, m, Sign(seed, []byte("n"))),
		} {
			if good {
				t.Errorf("seed %q, %s: good", seed, name)
			}
		}
	}
}

// B3: S + Order fits the equation as well as S does.
func TestSIsLessThanOrder(t *testing.T) {
	for _, seed := range seeds() {
		s := Sign(seed, nil)
		for turn := uint64(1); turn <= 30; turn++ {
			if Good(Key(seed), nil, api.Seal{R: s.R, S: s.S + turn*api.Order}) {
				t.Fatalf("S and %d times Order: good", turn)
			}
		}
	}
	for s, want := range map[uint64]bool{0: true, 1: true, api.Order - 1: true, api.Order: false, api.Order + 1: false, 1<<64 - 1: false} {
		r := referencePower(api.Base, s, api.Prime)
		if Good(1, nil, api.Seal{R: r, S: s}) != want {
			t.Errorf("key 1, S %d: %v doesn't come", s, want)
		}
	}
}

// B3: by key 1 every S fits, whatever e is: only the bounds tell what is not good.
func TestKeyAndRAreLessThanPrime(t *testing.T) {
	m := []byte("m")
	for _, exponent := range []uint64{0, 1, 30, 12345, api.Order - 1} {
		r := referencePower(api.Base, exponent, api.Prime)
		if !Good(1, m, api.Seal{R: r, S: exponent}) {
			t.Errorf("key 1, S %d: not good", exponent)
		}
		for turn := uint64(1); turn <= 15; turn++ {
			if Good(1, m, api.Seal{R: r + turn*api.Prime, S: exponent}) {
				t.Errorf("S %d, R and %d times Prime: good", exponent, turn)
			}
			if Good(1+turn*api.Prime, m, api.Seal{R: r, S: exponent}) {
				t.Errorf("S %d, key 1 and %d times Prime: good", exponent, turn)
			}
		}
	}
}

// B3: the key's negative fits the equation wherever e is even, but its power is -1.
func TestAKeyOutsideThePowersOfBaseIsNotGood(t *testing.T) {
	x := referenceSecret([]byte("a"))
	key := api.Prime - Key([]byte("a"))
	even := 0
	for n := range 64 {
		m := []byte(strconv.Itoa(n))
		s := sealBy(key, x, 5, m)
		e := referenceNumber(join(s.R, key, m)) % api.Order
		if e%2 != 0 {
			continue
		}
		even++
		right := new(big.Int).Mul(whole(s.R), whole(referencePower(key, e, api.Prime)))
		if right.Mod(right, whole(api.Prime)).Uint64() != referencePower(api.Base, s.S, api.Prime) {
			t.Fatal("the test's own seal doesn't fit the equation")
		}
		if Good(key, m, s) {
			t.Errorf("message %d: good", n)
		}
	}
	if even == 0 {
		t.Error("no e was even")
	}
}

// B3: the outermost keys and Rs.
func TestGoodAtTheEdges(t *testing.T) {
	edges := []uint64{0, 1, 2, 4, api.Order - 1, api.Order, api.Order + 1, api.Prime - 1, api.Prime, api.Prime + 1, 1<<63 - 1, 1 << 63, 1<<64 - 1}
	for _, key := range edges {
		for _, r := range edges {
			for _, s := range edges {
				m := []byte("m")
				want := referenceGood(key, m, api.Seal{R: r, S: s})
				if Good(key, m, api.Seal{R: r, S: s}) != want {
					t.Errorf("key %d, R %d, S %d: %v doesn't come", key, r, s, want)
				}
			}
		}
	}
}

func referenceGood(key uint64, m []byte, s api.Seal) bool {
	if key < 1 || key > api.Prime-1 || s.R < 1 || s.R > api.Prime-1 || s.S > api.Order-1 {
		return false
	}
	e := referenceNumber(join(s.R, key, m)) % api.Order
	right := new(big.Int).Mul(whole(s.R), whole(referencePower(key, e, api.Prime)))
	return referencePower(key, api.Order, api.Prime) == 1 &&
		right.Mod(right, whole(api.Prime)).Uint64() == referencePower(api.Base, s.S, api.Prime)
}

func TestTimesAndPower(t *testing.T) {
	numbers := []uint64{0, 1, 2, 3, 1<<32 - 1, 1 << 32, api.Order - 1, api.Order, api.Prime - 1, api.Prime, 1<<64 - 1}
	for _, a := range numbers {
		for _, b := range numbers {
			for _, m := range []uint64{2, 3, api.Order, api.Prime, 1<<64 - 1} {
				want := new(big.Int).Mul(whole(a), whole(b))
				if got := times(a, b, m); got != want.Mod(want, whole(m)).Uint64() {
					t.Errorf("%d times %d mod %d: %d comes", a, b, m, got)
				}
				if got := power(a, b, m); got != referencePower(a, b, m) {
					t.Errorf("%d to %d mod %d: %d comes", a, b, m, got)
				}
			}
		}
	}
}

// Z3
func TestNilAndEmptyAreTheSame(t *testing.T) {
	if Key(nil) != Key([]byte{}) || Sign(nil, nil) != Sign([]byte{}, []byte{}) {
		t.Error("nil and empty have unlike keys or seals")
	}
	s := Sign(nil, nil)
	if !Good(Key(nil), []byte{}, s) || !Good(Key(nil), nil, s) {
		t.Error("the seal of nothing is not good")
	}
}

// Z2: neither what is handed in nor the room behind it is changed, and that room means nothing.
func TestArgumentsAreOnlyRead(t *testing.T) {
	seed, message := []byte("seed, with room"), []byte("message, with room")
	wantKey, wantSeal := Key([]byte("seed")), Sign([]byte("seed"), []byte("message"))
	if Key(seed[:4]) != wantKey || Sign(seed[:4], message[:7]) != wantSeal || !Good(wantKey, message[:7], wantSeal) {
		t.Error("an answer hangs on spare room")
	}
	if string(seed) != "seed, with room" || string(message) != "message, with room" {
		t.Error("an argument or its spare room has changed")
	}
}

// Seed and message may be one memory.
func TestSeedAsMessage(t *testing.T) {
	b := []byte("both")
	if Sign(b, b) != Sign([]byte("both"), []byte("both")) || !Good(Key(b), b, Sign(b, b)) {
		t.Error("a seed that is its own message is sealed otherwise")
	}
}

// Z1: calls that run side by side don't disturb each other.
func TestCallsSideBySide(t *testing.T) {
	var all sync.WaitGroup
	for n := range 8 {
		all.Go(func() {
			seed := []byte(strings.Repeat("s", n))
			key, want := Key(seed), Sign(seed, seed)
			for range 50 {
				if Key(seed) != key || Sign(seed, seed) != want || !Good(key, seed, want) {
					t.Errorf("seed of %d bytes: another answer", n)
					return
				}
			}
		})
	}
	all.Wait()
}

func FuzzGood(f *testing.F) {
	f.Add([]byte("a"), []byte("m"), uint64(1), uint64(4), uint64(1))
	f.Add([]byte{}, []byte{}, uint64(api.Prime-1), uint64(api.Prime), uint64(api.Order))
	f.Fuzz(func(t *testing.T, seed, m []byte, key, r, s uint64) {
		if !Good(Key(seed), m, Sign(seed, m)) {
			t.Errorf("the seal of %x by %x is not good", m, seed)
		}
		other := api.Seal{R: r, S: s}
		if Good(key, m, other) != referenceGood(key, m, other) {
			t.Errorf("key %d, message %x, %v: a wrong answer", key, m, other)
		}
	})
}
