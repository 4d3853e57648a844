package proof

import (
	"bytes"
	"encoding/json"
	"math/rand"
	"os"
	"os/exec"
	"path/filepath"
	"strings"
	"testing"

	"landbridge/api"
	"landbridge/book"
	"landbridge/sha"
)

// weakDigest stands in for package sha where two digests must be the same: it leaves two bits.
const weakDigest = `package sha

import "crypto/sha256"

func Sum(b []byte) []byte {
	d := sha256.Sum256(b)
	out := make([]byte, len(d))
	out[0] = d[0] & 3
	return out
}

func Parts(l [][]byte) []byte {
	var all []byte
	for _, part := range l {
		all = append(all, part...)
	}
	return Sum(all)
}
`

func digestIsWeak() bool {
	d := sha.Sum([]byte("abc"))
	return bytes.Equal(d[1:], make([]byte, len(d)-1))
}

// overlay answers a file that tells the go tool to build package sha of weakDigest alone.
func overlay(t *testing.T) string {
	t.Helper()
	dir := t.TempDir()
	files, err := filepath.Glob("../sha/*.go")
	if err != nil || len(files) == 0 {
		t.Fatal("no package sha")
	}
	replace := map[string]string{}
	for _, f := range files {
		name, err := filepath.Abs(f)
		if err != nil {
			t.Fatal(err)
		}
		replace[name] = ""
		replace[filepath.Join(filepath.Dir(name), "weak.go")] = filepath.Join(dir, "weak.go")
	}
	told, err := json.Marshal(map[string]any{"Replace": replace})
	if err != nil {
		t.Fatal(err)
	}
	for name, text := range map[string]string{"weak.go": weakDigest, "overlay.json": string(told)} {
		if err := os.WriteFile(filepath.Join(dir, name), []byte(text), 0o600); err != nil {
			t.Fatal(err)
		}
	}
	return filepath.Join(dir, "overlay.json")
}

// E2 and E3: nobody knows two lists with the same SHA-256, so that these promises are tried with another digest in its place, in a run of its own.
func TestWithAWeakDigest(t *testing.T) {
	if digestIsWeak() {
		t.Skip("this is that run")
	}
	out, err := exec.Command("go", "test", "-v", "-run", "^TestUnderAWeakDigest$", "-overlay", overlay(t), ".").CombinedOutput()
	if err != nil || !strings.Contains(string(out), "--- PASS: TestUnderAWeakDigest") {
		t.Errorf("%v: %s", err, out[:min(len(out), 2000)])
	}
}

func TestUnderAWeakDigest(t *testing.T) {
	if !digestIsWeak() {
		t.Skip("TestWithAWeakDigest runs this one")
	}
	t.Run("Shown and Clash", clashes)
	t.Run("Absent", gaps)
}

func randomDigest(r *rand.Rand) []byte {
	d := make([]byte, api.Digest)
	d[0] = byte(r.Intn(4))
	if r.Intn(8) == 0 {
		r.Read(d)
	}
	return d
}

func randomBook(r *rand.Rand) []api.Pair {
	var out []api.Pair
	next := r.Intn(3)
	for range r.Intn(9) {
		out = append(out, api.Pair{Key: []byte{byte(next)}, Val: []byte{byte(r.Intn(3))}})
		next += 1 + r.Intn(3)
	}
	return out
}

// randomProof has a path of the right length for its place, but for now and then.
func randomProof(r *rand.Rand, l []api.Pair) api.Proof {
	size := len(l)
	if size == 0 || r.Intn(3) == 0 {
		size = 1 + r.Intn(9)
	}
	of := make([]api.Pair, size)
	copy(of, l)
	p := deepCopy(referenceProof(of, r.Intn(size)))
	if r.Intn(2) == 0 {
		p.Key = []byte{byte(r.Intn(20))}
	}
	if r.Intn(2) == 0 {
		p.Val = []byte{byte(r.Intn(3))}
	}
	for i := range p.Path {
		if r.Intn(3) == 0 {
			p.Path[i] = randomDigest(r)
		}
	}
	if r.Intn(20) == 0 {
		p.Path = append(p.Path, randomDigest(r))
	}
	return p
}

// checkClashIsNewMemory: what is written into an answer, its spare room too, is seen nowhere else (Z2).
func checkClashIsNewMemory(t *testing.T, l []api.Pair, p api.Proof) {
	t.Helper()
	a, b, _ := Clash(l, p)
	wantA, wantB := bytes.Clone(a), bytes.Clone(b)
	checkApart(t, [][]byte{a[:cap(a)], b[:cap(b)]})
	if a, b, _ = Clash(l, p); !bytes.Equal(a, wantA) || !bytes.Equal(b, wantB) {
		t.Fatal("what Clash answers is shared")
	}
}

func clashes(t *testing.T) {
	r := rand.New(rand.NewSource(5))
	seen := map[string]int{}
	for range 40000 {
		l := randomBook(r)
		root := mustRoot(t, l)
		p := randomProof(r, l)
		shown := referenceShown(root, p)
		checkShown(t, "by chance", root, p, shown)
		same := p.Size == len(l) && bytes.Equal(l[p.Index].Key, p.Key) && bytes.Equal(l[p.Index].Val, p.Val)
		first := checkClash(t, "by chance", l, p, shown && !same)
		checkClashIsNewMemory(t, l, p)
		switch {
		case !shown:
			seen["not shown"]++
		case same && !sameProof(p, referenceProof(l, p.Index)):
			seen["another path"]++
		case same:
			seen["the book's own"]++
		case len(l) == 0:
			seen["of an empty book"]++
		case p.Index >= len(l):
			seen["behind the last place"]++
		case p.Size != len(l):
			seen["another size"]++
		default:
			seen[[]string{"a pair", "a fork", "a root"}[first]]++
		}
		turned := append([]api.Pair{{Key: []byte{30}}}, l...)
		if len(l) > 0 {
			checkClash(t, "no book", turned, p, false)
		}
	}
	for _, what := range []string{"not shown", "another path", "the book's own", "of an empty book", "behind the last place", "another size", "a pair", "a fork", "a root"} {
		if seen[what] < 50 {
			t.Errorf("%s came only %d times", what, seen[what])
		}
	}
}

func randomGap(r *rand.Rand, l []api.Pair, key []byte) api.Gap {
	g := api.Gap{HasLeft: r.Intn(3) > 0, HasRight: r.Intn(3) > 0}
	place, _ := book.Find(l, key)
	if r.Intn(8) == 0 {
		place = r.Intn(len(l) + 1)
	}
	g.Left, g.Right = randomProof(r, l), randomProof(r, l)
	if place > 0 && r.Intn(3) > 0 {
		g.Left = referenceProof(l, place-1)
	}
	if place < len(l) && r.Intn(3) > 0 {
		g.Right = referenceProof(l, place)
	}
	return g
}

func gaps(t *testing.T) {
	r := rand.New(rand.NewSource(6))
	seen := map[[3]bool]int{}
	otherSize := 0
	for range 40000 {
		l := randomBook(r)
		root := mustRoot(t, l)
		key := []byte{byte(r.Intn(20))}
		g := randomGap(r, l, key)
		want := referenceAbsent(root, key, g)
		checkAbsent(t, "by chance", root, string(key), g, want)
		seen[[3]bool{g.HasLeft, g.HasRight, want}]++
		if g.HasLeft && g.HasRight && g.Left.Size != g.Right.Size && g.Left.Index+1 == g.Right.Index && referenceShown(root, g.Left) && referenceShown(root, g.Right) {
			otherSize++
		}
	}
	for i := range 8 {
		what := [3]bool{i&1 > 0, i&2 > 0, i&4 > 0}
		if seen[what] < 50 {
			t.Errorf("%v came only %d times", what, seen[what])
		}
	}
	if otherSize < 20 {
		t.Errorf("two proofs of unlike sizes came only %d times", otherSize)
	}
}
