package sha

import (
	"bytes"
	"crypto/sha256"
	"encoding/hex"
	"math/big"
	"strings"
	"sync"
	"testing"

	"landbridge/api"
)

// sample has bytes of all values, so that a byte in the wrong place is told.
func sample(n int) []byte {
	b := make([]byte, n)
	for i := range b {
		b[i] = byte(i*7 + i/256)
	}
	return b
}

func reference(b []byte) []byte {
	h := sha256.Sum256(b)
	return h[:]
}

func TestSumOfPublishedExamples(t *testing.T) {
	for _, c := range []struct{ in, want string }{
		{"", "e3b0c44298fc1c149afbf4c8996fb92427ae41e4649b934ca495991b7852b855"},
		{"abc", "ba7816bf8f01cfea414140de5dae2223b00361a396177a9cb410ff61f20015ad"},
		{"abcdbcdecdefdefgefghfghighijhijkijkljklmklmnlmnomnopnopq",
			"248d6a61d20638b8e5c026930c3e6039a33ce45964ff2167f6ecedd419db06c1"},
		{"abcdefghbcdefghicdefghijdefghijkefghijklfghijklmghijklmnhijklmnoijklmnopjklmnopqklmnopqrlmnopqrsmnopqrstnopqrstu",
			"cf5b16a778af8380036ce59e7b0492370b249b11e8f07a51afac45037afee9d1"},
		{strings.Repeat("a", 1000000), "cdc76e5c9914fb9281a1c7e284d73e67f1809a48a497200e046d39ccc7112cd0"},
	} {
		if got := hex.EncodeToString(Sum([]byte(c.in))); got != c.want {
			t.Errorf("Sum of %d bytes: %s comes, not %s", len(c.in), got, c.want)
		}
	}
}

// Lengths around every place where the padding needs a block more.
func TestSumOfEveryLength(t *testing.T) {
	b := sample(5 * blockSize)
	for n := range len(b) + 1 {
		got := Sum(b[:n])
		if len(got) != api.Digest {
			t.Fatalf("Sum of %d bytes has %d bytes", n, len(got))
		}
		if !bytes.Equal(got, reference(b[:n])) {
			t.Errorf("Sum of %d bytes: %x comes", n, got)
		}
	}
}

func TestSumOfOneByteOfEveryValue(t *testing.T) {
	for v := range 256 {
		b := []byte{byte(v)}
		if !bytes.Equal(Sum(b), reference(b)) {
			t.Errorf("Sum of byte %d is wrong", v)
		}
	}
}

func TestSumOfEqualBytes(t *testing.T) {
	for _, v := range []byte{0, 0x80, 0xff} {
		for _, n := range []int{55, 56, 63, 64, 119, 120, 1000} {
			b := bytes.Repeat([]byte{v}, n)
			if !bytes.Equal(Sum(b), reference(b)) {
				t.Errorf("Sum of %d bytes %d is wrong", n, v)
			}
		}
	}
}

func TestPartsCutAnywhere(t *testing.T) {
	b := sample(2*blockSize + 9)
	want := reference(b)
	for i := range len(b) + 1 {
		for j := i; j <= len(b); j++ {
			if !bytes.Equal(Parts([][]byte{b[:i], b[i:j], b[j:]}), want) {
				t.Fatalf("Parts cut at %d and %d is another digest", i, j)
			}
		}
	}
}

func TestPartsOfManySizes(t *testing.T) {
	for size := 1; size <= 2*blockSize+1; size++ {
		b := sample(7 * size)
		var l [][]byte
		for at := 0; at < len(b); at += size {
			l = append(l, nil, b[at:at+size], []byte{})
		}
		if !bytes.Equal(Parts(l), reference(b)) {
			t.Errorf("Parts of %d bytes each is wrong", size)
		}
	}
}

func TestPartsKeepTheirOrder(t *testing.T) {
	got := Parts([][]byte{[]byte("c"), []byte("ab")})
	if !bytes.Equal(got, reference([]byte("cab"))) {
		t.Errorf("Parts of c, ab: %x comes", got)
	}
}

func TestNothingAtAll(t *testing.T) {
	want := reference(nil)
	for name, got := range map[string][]byte{
		"Sum(nil)":             Sum(nil),
		"Sum(empty)":           Sum([]byte{}),
		"Parts(nil)":           Parts(nil),
		"Parts(empty)":         Parts([][]byte{}),
		"Parts(nil and empty)": Parts([][]byte{nil, {}, nil}),
	} {
		if !bytes.Equal(got, want) {
			t.Errorf("%s: %x comes", name, got)
		}
	}
}

// 2^29 bytes are the first whose bits don't fit into four bytes.
func TestSizeBeyondFourBytes(t *testing.T) {
	part := sample(1 << 20)
	l := make([][]byte, 1<<9, 1<<9+1)
	for i := range l {
		l[i] = part
	}
	l = append(l, []byte("abc"))
	h := sha256.New()
	for _, p := range l {
		h.Write(p)
	}
	if !bytes.Equal(Parts(l), h.Sum(nil)) {
		t.Error("Parts of 2^29 + 3 bytes is wrong")
	}
}

// Z2: neither what is handed in nor the room behind it is changed, and that room means nothing.
func TestArgumentsAreOnlyRead(t *testing.T) {
	for n := range 2*blockSize + 2 {
		room := sample(n + 2*blockSize)
		before := bytes.Clone(room)
		list := [][]byte{room[:n/2], room[n/2 : n], room[n:]}
		sum, parts := Sum(room[:n]), Parts(list[:2])
		if !bytes.Equal(room, before) || len(list[2]) != 2*blockSize || &list[0][:1][0] != &room[0] {
			t.Fatalf("%d bytes: an argument or its spare room has changed", n)
		}
		for i := n; i < len(room); i++ {
			room[i] ^= 0xff
		}
		list[2] = nil
		if !bytes.Equal(Sum(room[:n]), sum) || !bytes.Equal(Parts(list[:2]), parts) {
			t.Fatalf("%d bytes: the answer hangs on spare room", n)
		}
	}
}

// Z2: an answer is the caller's, its spare room too.
func TestAnswersAreNewMemory(t *testing.T) {
	for name, call := range map[string]func([]byte) []byte{
		"Sum":   Sum,
		"Parts": func(b []byte) []byte { return Parts([][]byte{b}) },
	} {
		b := []byte("abc")
		first, second := call(b), call(b)
		for i := range cap(first) {
			first[:cap(first)][i] ^= 0xff
		}
		if want := reference(b); !bytes.Equal(second, want) || !bytes.Equal(call(b), want) {
			t.Errorf("%s: answers share memory", name)
		}
		if string(b) != "abc" {
			t.Errorf("%s: the answer shares memory with the argument", name)
		}
	}
}

// Z1: calls that run side by side don't disturb each other.
func TestCallsSideBySide(t *testing.T) {
	var all sync.WaitGroup
	for n := range 16 {
		all.Go(func() {
			b := sample(n * 37)
			for range 50 {
				if !bytes.Equal(Sum(b), reference(b)) || !bytes.Equal(Parts([][]byte{b[:n], b[n:]}), reference(b)) {
					t.Errorf("%d bytes: a wrong digest", len(b))
					return
				}
			}
		})
	}
	all.Wait()
}

func firstPrimes(n int) []int64 {
	var out []int64
	for x := int64(2); len(out) < n; x++ {
		if big.NewInt(x).ProbablyPrime(0) {
			out = append(out, x)
		}
	}
	return out
}

// holdsRoot tells whether word is the first 32 bits behind the point of p's root of that degree.
func holdsRoot(p, degree int64, word uint32) bool {
	whole := int64(1)
	for power(whole+1, degree).Cmp(big.NewInt(p)) <= 0 {
		whole++
	}
	scaled := new(big.Int).Lsh(big.NewInt(p), uint(32*degree))
	low := whole<<32 | int64(word)
	return power(low, degree).Cmp(scaled) <= 0 && power(low+1, degree).Cmp(scaled) > 0
}

func power(x, degree int64) *big.Int {
	return new(big.Int).Exp(big.NewInt(x), big.NewInt(degree), nil)
}

func TestWordsAreRootsOfPrimes(t *testing.T) {
	start := begin().words
	for i, p := range firstPrimes(len(cubes)) {
		if i < len(start) && !holdsRoot(p, 2, start[i]) {
			t.Errorf("word %d is not of the square root of %d", i, p)
		}
		if !holdsRoot(p, 3, cubes[i]) {
			t.Errorf("word %d is not of the cube root of %d", i, p)
		}
	}
}

func FuzzSum(f *testing.F) {
	f.Add([]byte("abc"), 1)
	f.Add(sample(200), 64)
	f.Fuzz(func(t *testing.T, b []byte, cut int) {
		if cut < 0 || cut > len(b) {
			cut = len(b)
		}
		if want := reference(b); !bytes.Equal(Sum(b), want) || !bytes.Equal(Parts([][]byte{b[:cut], b[cut:]}), want) {
			t.Errorf("%x, cut at %d: a wrong digest", b, cut)
		}
	})
}
