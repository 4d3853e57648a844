package wire

import (
	"bytes"
	"encoding/binary"
	"math"
	"math/rand"
	"slices"
	"strings"
	"sync"
	"testing"

	"landbridge/api"
)

func num(n uint64) api.Piece { return api.Piece{Kind: api.PNum, N: n} }

func raw(s string) api.Piece { return api.Piece{Kind: api.PBytes, B: []byte(s)} }

// filled is a piece that is written in n bytes.
func filled(t *testing.T, n int) api.Piece {
	t.Helper()
	for head := 2; head <= 4; head++ {
		p := raw(strings.Repeat("x", n-head))
		if len(referencePiece(p)) == n {
			return p
		}
	}
	t.Fatalf("no piece has %d bytes", n)
	return api.Piece{}
}

func referencePiece(p api.Piece) []byte {
	if p.Kind == api.PNum {
		return binary.AppendUvarint([]byte{0}, p.N)
	}
	return append(binary.AppendUvarint([]byte{1}, uint64(len(p.B))), p.B...)
}

// referenceWrite is for lists whose kinds are known.
func referenceWrite(l []api.Piece) []byte {
	out := binary.AppendUvarint(nil, uint64(len(l)))
	for _, p := range l {
		out = append(out, referencePiece(p)...)
	}
	return out
}

// referenceRead takes numbers in any way they can be written, and then asks whether writing gives b again.
func referenceRead(b []byte) ([]api.Piece, api.Errno) {
	if len(b) > api.MaxBytes {
		return nil, api.ErrMuch
	}
	r := bytes.NewReader(b)
	count, err := binary.ReadUvarint(r)
	if err != nil || count > api.MaxPieces {
		return nil, api.ErrForm
	}
	var out []api.Piece
	for range count {
		first, _ := r.ReadByte()
		n, err := binary.ReadUvarint(r)
		switch {
		case err != nil:
			return nil, api.ErrForm
		case first == 0:
			out = append(out, num(n))
		case n > uint64(r.Len()):
			return nil, api.ErrForm
		default:
			content := make([]byte, n)
			r.Read(content)
			out = append(out, raw(string(content)))
		}
	}
	if !bytes.Equal(referenceWrite(out), b) {
		return nil, api.ErrForm
	}
	return out, api.OK
}

func samePiece(a, b api.Piece) bool {
	return a.Kind == b.Kind && a.N == b.N && bytes.Equal(a.B, b.B)
}

func mustWrite(t *testing.T, l []api.Piece) []byte {
	t.Helper()
	b, f := Write(l)
	if f != (api.Fault{}) {
		t.Fatalf("Write of %d pieces: %v comes", len(l), f)
	}
	return b
}

// checkFault: that fault comes, and nothing beside it.
func checkFault(t *testing.T, name string, l []api.Piece, err api.Errno, at int) {
	t.Helper()
	b, f := Write(l)
	if want := (api.Fault{Err: err, At: at}); f != want || len(b) != 0 {
		t.Errorf("%s: %v and %d bytes come, not %v", name, f, len(b), want)
	}
}

// checkRefused: that error comes, and nothing beside it.
func checkRefused(t *testing.T, name string, b []byte, want api.Errno) {
	t.Helper()
	if l, err := Read(b); err != want || len(l) != 0 {
		t.Errorf("%s: %d and %d pieces come, not %d", name, err, len(l), want)
	}
}

// checkRead: just these pieces come of b.
func checkRead(t *testing.T, b []byte, want []api.Piece) {
	t.Helper()
	l, err := Read(b)
	if err != api.OK || !slices.EqualFunc(l, want, samePiece) {
		t.Errorf("Read of %d bytes: %d and %d pieces come, not the %d", len(b), err, len(l), len(want))
	}
}

// edgeNumbers are those where another byte is needed, and their neighbours.
func edgeNumbers() []uint64 {
	out := []uint64{0, 1, 2, 5, 300, math.MaxUint64 - 1, math.MaxUint64}
	for bit := 1; bit < 64; bit++ {
		out = append(out, 1<<bit-1, 1<<bit, 1<<bit+1)
	}
	return out
}

// C1
func TestWriteOfKnownPieces(t *testing.T) {
	for _, c := range []struct {
		in   []api.Piece
		want []byte
	}{
		{nil, []byte{0}},
		{[]api.Piece{num(0)}, []byte{1, 0, 0}},
		{[]api.Piece{num(127)}, []byte{1, 0, 0x7f}},
		{[]api.Piece{num(128)}, []byte{1, 0, 0x80, 1}},
		{[]api.Piece{num(300)}, []byte{1, 0, 0xac, 2}},
		{[]api.Piece{num(16383), num(16384)}, []byte{2, 0, 0xff, 0x7f, 0, 0x80, 0x80, 1}},
		{[]api.Piece{num(math.MaxUint64)}, []byte{1, 0, 255, 255, 255, 255, 255, 255, 255, 255, 255, 1}},
		{[]api.Piece{raw("")}, []byte{1, 1, 0}},
		{[]api.Piece{raw("abc"), num(7), raw("\x00")}, []byte{3, 1, 3, 'a', 'b', 'c', 0, 7, 1, 1, 0}},
	} {
		if got := mustWrite(t, c.in); !bytes.Equal(got, c.want) {
			t.Errorf("%v: %v comes, not %v", c.in, got, c.want)
		}
		checkRead(t, c.want, c.in)
	}
}

// C1, C2
func TestNumbersOfEveryLength(t *testing.T) {
	for _, n := range edgeNumbers() {
		l := []api.Piece{num(n)}
		b := mustWrite(t, l)
		if want := binary.AppendUvarint([]byte{1, 0}, n); !bytes.Equal(b, want) {
			t.Errorf("%d: %v comes, not %v", n, b, want)
		}
		checkRead(t, b, l)
	}
}

// C1, C2
func TestBytesOfManyLengths(t *testing.T) {
	for _, n := range []int{0, 1, 2, 126, 127, 128, 129, 255, 256, 16382, 16383, 16384, 16385, 19990} {
		content := make([]byte, n)
		for i := range content {
			content[i] = byte(i*7 + i/256)
		}
		l := []api.Piece{num(9), {Kind: api.PBytes, B: content}}
		b := mustWrite(t, l)
		if !bytes.Equal(b, referenceWrite(l)) {
			t.Errorf("%d bytes are written otherwise", n)
		}
		checkRead(t, b, l)
	}
}

// C1, C2: as many as may be, and one more; the count itself needs two bytes from 128 on.
func TestHowManyPieces(t *testing.T) {
	for n := range api.MaxPieces + 1 {
		l := make([]api.Piece, n)
		for i := range l {
			l[i] = []api.Piece{num(uint64(i)), raw("ab")}[i%2]
		}
		b := mustWrite(t, l)
		if !bytes.Equal(b, referenceWrite(l)) {
			t.Errorf("%d pieces are written otherwise", n)
		}
		checkRead(t, b, l)
	}
	for _, n := range []int{api.MaxPieces + 1, api.MaxPieces + 2, 256, 300, 5000} {
		l := slices.Repeat([]api.Piece{num(0)}, n)
		checkFault(t, "too many pieces", l, api.ErrMany, 0)
		checkRefused(t, "too many pieces", referenceWrite(l), api.ErrForm)
	}
}

// C1: ahead of what is wrong with single pieces.
func TestTooManyIsToldFirst(t *testing.T) {
	l := make([]api.Piece, api.MaxPieces+1)
	checkFault(t, "no kinds", l, api.ErrMany, 0)
	l[0] = raw(strings.Repeat("x", api.MaxBytes+1))
	checkFault(t, "too much", l, api.ErrMany, 0)
}

// C1
func TestUnknownKinds(t *testing.T) {
	for _, kind := range []int{0, 3, 4, -1, -2, 256 + api.PNum, 256 + api.PBytes, 1<<32 + api.PNum, math.MinInt, math.MaxInt} {
		bad := api.Piece{Kind: kind, N: 1, B: []byte("b")}
		for at := range 4 {
			l := []api.Piece{num(1), raw("a"), num(2), raw("")}
			l[at] = bad
			checkFault(t, "an unknown kind", l, api.ErrKind, at)
			l[3] = bad
			checkFault(t, "unknown kinds", l, api.ErrKind, at)
		}
	}
}

// C1: as much as may be, and one more, by either kind; at the piece that is too much.
func TestHowManyBytes(t *testing.T) {
	for _, c := range []struct {
		name string
		l    []api.Piece
		at   int // below 0: it is not too much
	}{
		{"just as much, one piece", []api.Piece{filled(t, 19999)}, -1},
		{"one more, one piece", []api.Piece{filled(t, 20000)}, 0},
		{"much more, one piece", []api.Piece{raw(strings.Repeat("x", 5000000))}, 0},
		{"just as much, then bytes", []api.Piece{filled(t, 19990), raw("1234567")}, -1},
		{"one more, then bytes", []api.Piece{filled(t, 19990), raw("12345678")}, 1},
		{"the content fits, its head does not", []api.Piece{filled(t, 19990), raw("123456789")}, 1},
		{"just as much, then a number", []api.Piece{filled(t, 19996), num(128)}, -1},
		{"one more, then a number", []api.Piece{filled(t, 19996), num(1 << 14)}, 1},
		{"a greatest number", []api.Piece{filled(t, 19990), num(math.MaxUint64)}, 1},
		{"full, and a number", []api.Piece{filled(t, 19999), num(0)}, 1},
		{"full, and no bytes", []api.Piece{filled(t, 19999), raw("")}, 1},
		{"one left, and a number", []api.Piece{filled(t, 19998), num(0)}, 1},
		{"one left, and no bytes", []api.Piece{filled(t, 19998), raw("")}, 1},
		{"two left, and no bytes", []api.Piece{filled(t, 19997), raw("")}, -1},
		{"too much twice", []api.Piece{num(1), filled(t, 19999), filled(t, 19999)}, 1},
		{"too much in the middle", []api.Piece{filled(t, 10000), filled(t, 9999), num(3), num(4)}, 2},
	} {
		if c.at >= 0 {
			checkFault(t, c.name, c.l, api.ErrMuch, c.at)
			continue
		}
		b, f := Write(c.l)
		if f != (api.Fault{}) || !bytes.Equal(b, referenceWrite(c.l)) {
			t.Errorf("%s: %v and %d bytes come", c.name, f, len(b))
		}
		checkRead(t, b, c.l)
	}
}

// C1: piece by piece, and of one piece the kind first.
func TestWhichFaultIsToldFirst(t *testing.T) {
	bad := api.Piece{Kind: 3}
	checkFault(t, "too much, then no kind", []api.Piece{filled(t, 20000), bad}, api.ErrMuch, 0)
	checkFault(t, "no kind, then too much", []api.Piece{bad, filled(t, 20000)}, api.ErrKind, 0)
	checkFault(t, "full, then no kind", []api.Piece{filled(t, 19999), bad}, api.ErrKind, 1)
	bad.B = make([]byte, 2*api.MaxBytes)
	checkFault(t, "much of no kind", []api.Piece{num(1), bad}, api.ErrKind, 1)
}

// Z5: a number has no B, and bytes have no N.
func TestFieldsOfAnotherKindMeanNothing(t *testing.T) {
	odd := []api.Piece{{Kind: api.PNum, N: 5, B: make([]byte, 2*api.MaxBytes)}, {Kind: api.PBytes, N: 1 << 60, B: []byte("a")}}
	b := mustWrite(t, odd)
	if !bytes.Equal(b, []byte{2, 0, 5, 1, 1, 'a'}) {
		t.Errorf("%v comes", b)
	}
	checkRead(t, b, []api.Piece{num(5), raw("a")})
}

// C2
func TestReadRefuses(t *testing.T) {
	nine := []byte{255, 255, 255, 255, 255, 255, 255, 255, 255}
	for name, b := range map[string][]byte{
		"nothing":                          nil,
		"no pieces, and a byte":            {0, 0},
		"a piece that is missing":          {1},
		"a second one that is missing":     {2, 0, 5},
		"a piece too many":                 {1, 0, 5, 0, 6},
		"a byte too many":                  {1, 1, 1, 'a', 'b'},
		"a number that is missing":         {1, 0},
		"a number that breaks off":         {1, 0, 0x80},
		"a number with a last nought":      {1, 0, 0x85, 0},
		"a nought with a last nought":      {1, 0, 0x80, 0},
		"a number with two last noughts":   {1, 0, 0x85, 0x80, 0},
		"a count with a last nought":       {0x80, 0},
		"a count of one, last nought":      {0x81, 0, 0, 5},
		"a length that is missing":         {1, 1},
		"a length with a last nought":      {1, 1, 0x81, 0, 'a'},
		"a length of none, last nought":    {1, 1, 0x80, 0},
		"a byte too few":                   {1, 1, 3, 'a', 'b'},
		"all bytes missing":                {1, 1, 1},
		"a kind that is none":              {1, 2, 0},
		"a kind that is none, far":         {1, 0x80, 0},
		"a kind that is none, with more":   {1, 0xff, 1, 'a'},
		"a number of more than 64 bits":    slices.Concat([]byte{1, 0}, nine, []byte{2}),
		"a number of 64 bits and a nought": slices.Concat([]byte{1, 0}, nine, []byte{0x81, 0}),
		"a number of 65 bits":              slices.Concat([]byte{1, 0}, nine, []byte{3}),
		"a number of eleven bytes":         slices.Concat([]byte{1, 0}, nine, []byte{0x81, 1}),
		"a tenth byte without bits":        slices.Concat([]byte{1, 0}, nine, []byte{0}),
		"a greatest length":                slices.Concat([]byte{1, 1}, nine, []byte{1, 'a'}),
		"a length of 2^63":                 {1, 1, 0x80, 0x80, 0x80, 0x80, 0x80, 0x80, 0x80, 0x80, 0x80, 1, 'a'},
		"a length of 2^32 and 1":           {1, 1, 0x81, 0x80, 0x80, 0x80, 0x10, 'a'},
		"a greatest count":                 slices.Concat(nine, []byte{1, 0, 0}),
		"a count of 201":                   {201, 1},
		"an endless number":                bytes.Repeat([]byte{0x80}, api.MaxBytes),
		"as much as may be":                make([]byte, api.MaxBytes),
	} {
		checkRefused(t, name, b, api.ErrForm)
	}
}

// C2: whatever is wrong beside it, and though it be written as pieces are.
func TestReadOfTooMuch(t *testing.T) {
	checkRefused(t, "noughts", make([]byte, api.MaxBytes+1), api.ErrMuch)
	checkRefused(t, "many noughts", make([]byte, 1000000), api.ErrMuch)
	checkRefused(t, "an endless number", bytes.Repeat([]byte{0x80}, api.MaxBytes+1), api.ErrMuch)
	checkRefused(t, "well written", referenceWrite([]api.Piece{filled(t, api.MaxBytes)}), api.ErrMuch)
}

// C2: all short runs of the bytes that mean something.
func TestReadOfAllShortBytes(t *testing.T) {
	letters := []byte{0, 1, 2, 3, 0x7f, 0x80, 0x81, 0xff}
	good := 0
	var try func(b []byte, left int)
	try = func(b []byte, left int) {
		good += holdRead(t, b)
		for _, x := range letters {
			if left > 0 {
				try(append(slices.Clone(b), x), left-1)
			}
		}
	}
	try(nil, 6)
	if good < 100 {
		t.Errorf("only %d of them were pieces", good)
	}
}

// holdRead holds an answer against the reference's, and tells whether it was pieces: 1, else 0.
func holdRead(t *testing.T, b []byte) int {
	t.Helper()
	l, err := Read(b)
	want, wantErr := referenceRead(b)
	if err != wantErr || !slices.EqualFunc(l, want, samePiece) {
		t.Errorf("%x: %v and %d come, not %v and %d", b, l, err, want, wantErr)
	}
	if err != api.OK {
		return 0
	}
	if again, f := Write(l); f != (api.Fault{}) || !bytes.Equal(again, b) {
		t.Errorf("%x is read, but is not what its pieces are written as", b)
	}
	return 1
}

// C2: bytes of true pieces, with one byte changed, gone or more.
func TestReadOfBytesNearTrueOnes(t *testing.T) {
	r := rand.New(rand.NewSource(3))
	for range 300 {
		l := randomPieces(r)
		b := mustWrite(t, l)
		checkRead(t, b, l)
		for at := range b {
			other := slices.Clone(b)
			other[at] ^= 1 << r.Intn(8)
			holdRead(t, other)
			holdRead(t, slices.Delete(slices.Clone(b), at, at+1))
			holdRead(t, slices.Insert(slices.Clone(b), at, byte(r.Intn(256))))
			checkRefused(t, "a beginning", b[:at], api.ErrForm)
		}
		checkRefused(t, "a byte behind", append(slices.Clone(b), byte(r.Intn(256))), api.ErrForm)
	}
}

func randomPieces(r *rand.Rand) []api.Piece {
	out := make([]api.Piece, r.Intn(8))
	for i := range out {
		out[i] = num(r.Uint64() >> r.Intn(64))
		if r.Intn(2) == 0 {
			content := make([]byte, r.Intn(12))
			r.Read(content)
			out[i] = api.Piece{Kind: api.PBytes, B: content}
		}
	}
	return out
}

// Z3
func TestNilAndEmptyAreTheSame(t *testing.T) {
	if !bytes.Equal(mustWrite(t, nil), mustWrite(t, []api.Piece{})) {
		t.Error("no pieces are written in two ways")
	}
	if !bytes.Equal(mustWrite(t, []api.Piece{{Kind: api.PBytes}}), mustWrite(t, []api.Piece{raw("")})) {
		t.Error("no bytes are written in two ways")
	}
	checkRefused(t, "empty", []byte{}, api.ErrForm)
	checkRefused(t, "nil", nil, api.ErrForm)
}

// Z2: neither what is handed in nor the room behind it is changed, and that room means nothing.
func TestArgumentsAreOnlyRead(t *testing.T) {
	content := []byte("abc, with room")
	l := []api.Piece{num(300), {Kind: api.PBytes, B: content[:3]}, {Kind: 7, N: 7, B: content[3:5]}}
	b := mustWrite(t, l[:2])
	if !bytes.Equal(b, referenceWrite([]api.Piece{num(300), raw("abc")})) {
		t.Errorf("%v comes", b)
	}
	if string(content) != "abc, with room" || !samePiece(l[0], num(300)) || string(l[1].B) != "abc" || l[2].Kind != 7 {
		t.Error("Write has changed an argument or its spare room")
	}
	roomy := append(slices.Clone(b), 0, 5, 1)
	before := slices.Clone(roomy)
	checkRead(t, roomy[:len(b)], []api.Piece{num(300), raw("abc")})
	checkRefused(t, "broken off", roomy[:len(b)-1], api.ErrForm)
	if !bytes.Equal(roomy, before) {
		t.Error("Read has changed an argument or its spare room")
	}
}

// Z2: answers share no memory with arguments, with other answers or with each other, spare room included.
func TestAnswersAreNewMemory(t *testing.T) {
	content := []byte("abc")
	l := []api.Piece{{Kind: api.PBytes, B: content}, raw("defgh"), raw(""), raw("i")}
	b, twin := mustWrite(t, l), mustWrite(t, l)
	want := slices.Clone(twin)
	clear(b[:cap(b)])
	if string(content) != "abc" || !bytes.Equal(twin, want) {
		t.Error("what Write answers is shared")
	}
	first, _ := Read(twin)
	second, _ := Read(twin)
	clear(twin)
	for i := range first {
		part := first[i].B
		clear(part[:cap(part)])
		for j, p := range first[i+1:] {
			if !samePiece(p, l[i+1+j]) {
				t.Errorf("pieces %d and %d share memory", i, i+1+j)
			}
		}
	}
	clear(first[:cap(first)])
	if !slices.EqualFunc(second, l, samePiece) {
		t.Error("what Read answers is shared")
	}
}

// Z1: calls that run side by side don't disturb each other.
func TestCallsSideBySide(t *testing.T) {
	var all sync.WaitGroup
	l := []api.Piece{num(300), raw("abc"), raw("")}
	want := referenceWrite(l)
	for range 8 {
		all.Go(func() {
			for range 200 {
				b, f := Write(l)
				m, err := Read(want)
				if f.Err != api.OK || err != api.OK || !bytes.Equal(b, want) || !slices.EqualFunc(m, l, samePiece) {
					t.Error("another answer")
					return
				}
			}
		})
	}
	all.Wait()
}

func FuzzRead(f *testing.F) {
	f.Add([]byte{0})
	f.Add([]byte{2, 0, 0xac, 2, 1, 3, 'a', 'b', 'c'})
	f.Add([]byte{1, 0, 255, 255, 255, 255, 255, 255, 255, 255, 255, 1})
	f.Fuzz(func(t *testing.T, b []byte) { holdRead(t, b) })
}
