package app

import (
	"fmt"
	"math"
	"math/rand"
	"reflect"
	"slices"
	"strings"
	"sync"
	"testing"

	"landbridge/api"
	"landbridge/bank"
)

// fieldsOf are those that each kind has.
func fieldsOf(kind int) []string {
	return strings.Fields(map[int]string{
		api.MsgClient:   "Chain Trust Known",
		api.MsgFollow:   "Client Update",
		api.MsgCatch:    "Client Update Second",
		api.MsgConnInit: "Client Other",
		api.MsgConnTry:  "Client Other OtherEnd Shown",
		api.MsgConnAck:  "End OtherEnd Shown",
		api.MsgConnDone: "End Shown",
		api.MsgChanInit: "End Ordered",
		api.MsgChanTry:  "End Ordered OtherEnd Shown",
		api.MsgChanAck:  "End OtherEnd Shown",
		api.MsgChanDone: "End Shown",
		api.MsgClose:    "End",
		api.MsgClosed:   "End Shown",
		api.MsgSend:     "End Transfer Timeout",
		api.MsgRecv:     "Packet Shown",
		api.MsgAck:      "Packet Ack Shown",
		api.MsgLate:     "Packet Next Shown",
		api.MsgGive:     "Transfer",
	}[kind])
}

// fill lays something else into v, and into all that it has.
func fill(v reflect.Value, n int) {
	switch v.Kind() {
	case reflect.Bool:
		v.SetBool(!v.Bool())
	case reflect.Int:
		v.SetInt(v.Int() + int64(n))
	case reflect.Uint64:
		v.SetUint(v.Uint() + uint64(n))
	case reflect.Uint8:
		v.SetUint(v.Uint() ^ 0x55)
	case reflect.String:
		v.SetString(v.String() + "#")
	case reflect.Slice:
		v.Set(reflect.MakeSlice(v.Type(), 3, 3))
		for i := range 3 {
			fill(v.Index(i), n)
		}
	case reflect.Struct:
		for i := range v.NumField() {
			fill(v.Field(i), n)
		}
	}
}

// Z5: fields that a kind has not mean nothing, whatever stands in them; those that it has do.
func TestFieldsOfKinds(t *testing.T) {
	for _, name := range names {
		for _, n := range []int{1, -5, 1000, math.MinInt} {
			plain := good(name).ready()
			want, wantDone := Do(plain.s, plain.m)
			x := good(name).ready()
			fields := append(fieldsOf(x.m.Kind), "Kind")
			v := reflect.ValueOf(&x.m).Elem()
			for i := range v.NumField() {
				if field := v.Type().Field(i).Name; !slices.Contains(fields, field) {
					fill(v.Field(i), n)
				}
			}
			if s, done := checkCall(t, "with other fields", x); tell(s, done) != tell(want, wantDone) {
				t.Errorf("%s: with other fields %+v and %+v come, not %+v and %+v", name, s, done, want, wantDone)
			}
			for _, field := range fields {
				if name == "Late" && field == "Next" {
					continue // it is asked of ordered channels alone
				}
				y := good(name).ready()
				fill(reflect.ValueOf(&y.m).Elem().FieldByName(field), n)
				if s, done := checkCall(t, field, y); tell(s, done) == tell(want, wantDone) {
					t.Errorf("%s: %s means nothing", name, field)
				}
			}
		}
	}
}

// lists answers all lists that v reaches, each with its spare room.
func lists(v reflect.Value) []reflect.Value {
	var out []reflect.Value
	switch v.Kind() {
	case reflect.Slice:
		if v.Cap() > 0 {
			out = append(out, v.Slice(0, v.Cap()))
		}
		for i := range v.Len() {
			out = append(out, lists(v.Index(i))...)
		}
	case reflect.Struct:
		for i := range v.NumField() {
			out = append(out, lists(v.Field(i))...)
		}
	}
	return out
}

func listsOf(l ...any) []reflect.Value {
	var out []reflect.Value
	for _, x := range l {
		out = append(out, lists(reflect.ValueOf(x))...)
	}
	return out
}

// roomy answers v in memory of its own, with one more of its last entry behind each list.
func roomy(v reflect.Value) reflect.Value {
	out := reflect.New(v.Type()).Elem()
	out.Set(v)
	switch v.Kind() {
	case reflect.Slice:
		if v.Len() == 0 {
			return out
		}
		room := reflect.MakeSlice(v.Type(), v.Len()+1, v.Len()+1)
		for i := range v.Len() + 1 {
			room.Index(i).Set(roomy(v.Index(min(i, v.Len()-1))))
		}
		out.Set(room.Slice(0, v.Len()))
	case reflect.Struct:
		for i := range v.NumField() {
			out.Field(i).Set(roomy(v.Field(i)))
		}
	}
	return out
}

func withRoomBehind[T any](x T) T { return roomy(reflect.ValueOf(x)).Interface().(T) }

func withRoom(x call) call { return call{x.name, withRoomBehind(x.s), withRoomBehind(x.m)} }

// share answers whether two lists have memory in common.
func share(a, b reflect.Value) bool {
	size := func(v reflect.Value) uintptr { return uintptr(v.Len()) * v.Type().Elem().Size() }
	return a.Pointer() < b.Pointer()+size(b) && b.Pointer() < a.Pointer()+size(a)
}

// callsOfAllKinds are good ones, and such that make errors early and late, or are refused.
func callsOfAllKinds() []call {
	out := []call{{"none", sample(), api.Msg{Kind: 19}}, {"wrong", api.State{}, api.Msg{Kind: api.MsgGive}}}
	for _, name := range names {
		out = append(out, good(name).ready())
		for _, f := range faultsOf(name) {
			out = append(out, altered(name, f.change))
		}
		bad := good(name)
		bad.m.Client, bad.m.End, bad.m.Chain = 9, 9, ""
		out = append(out, bad.ready())
	}
	for _, name := range []string{"Recv", "Recv*"} {
		out = append(out, carried(name, func(t *api.Transfer) { t.Reader = "#1" }))
	}
	return out
}

// Z2: neither what is handed in nor the room behind it is changed, and that room means nothing.
func TestArgumentsAreOnlyRead(t *testing.T) {
	for _, x := range callsOfAllKinds() {
		plain, plainDone := Do(x.s, x.m)
		plainNext, _ := Next(x.s, 3)
		x = withRoom(x)
		before := fmt.Sprint(listsOf(x.s, x.m))
		s, done := Do(x.s, x.m)
		next, _ := Next(x.s, 3)
		if tell(s, done) != tell(plain, plainDone) || tell(next) != tell(plainNext) {
			t.Errorf("%s: with room behind %+v and %+v come, not %+v and %+v", x.name, s, done, plain, plainDone)
		}
		if fmt.Sprint(listsOf(x.s, x.m)) != before {
			t.Errorf("%s: an argument or its spare room has changed", x.name)
		}
		Next(x.s, 0)
		if fmt.Sprint(listsOf(x.s, x.m)) != before {
			t.Errorf("%s: Next has changed its argument, or its spare room", x.name)
		}
	}
}

// inOneMemory lets digests of s be one list: an answer may not share even what its argument does.
func inOneMemory(s api.State) {
	one := filled(99)
	for _, l := range [][]api.Mark{s.Got, s.Acks} {
		for i := range l {
			l[i].Digest = one
		}
	}
	if len(s.Clients) > 0 {
		s.Clients[0].Known[0].Root, s.Clients[0].Known[0].Next = one, one
	}
}

// checkNew holds an answer's lists against all others, and against each other.
func checkNew(t *testing.T, note string, answer, others []reflect.Value) {
	t.Helper()
	for i, list := range answer {
		shares := func(other reflect.Value) bool { return share(list, other) }
		if slices.ContainsFunc(others, shares) || slices.ContainsFunc(answer[i+1:], shares) {
			t.Errorf("%s: a list of %d of type %v is shared", note, list.Len(), list.Type())
		}
	}
	for _, list := range answer {
		list.Clear()
	}
}

// Z2: answers share no memory with arguments, with other answers or within themselves, spare room included: beside an error the state doesn't, either.
func TestAnswersAreNewMemory(t *testing.T) {
	for _, x := range callsOfAllKinds() {
		x = withRoom(x)
		inOneMemory(x.s)
		first, done := Do(x.s, x.m)
		second, again := Do(x.s, x.m)
		next, _ := Next(x.s, 1)
		kept := tell(second, again)
		checkNew(t, x.name, listsOf(first, done), listsOf(x.s, x.m, second, again, next))
		checkNew(t, "Next", listsOf(next), listsOf(x.s, second))
		if tell(second, again) != kept {
			t.Errorf("%s: an answer is shared", x.name)
		}
		if third, done := checkCall(t, "once more", x); tell(third, done) != kept {
			t.Errorf("%s: an answer is kept", x.name)
		}
		for _, list := range listsOf(x.s, x.m) {
			list.Clear()
		}
		if tell(second, again) != kept {
			t.Errorf("%s: an answer hangs on what was handed in", x.name)
		}
	}
}

// emptied answers v in memory of its own, with an empty list where there is none.
func emptied(v reflect.Value) reflect.Value {
	out := reflect.New(v.Type()).Elem()
	out.Set(v)
	switch v.Kind() {
	case reflect.Slice:
		out.Set(reflect.MakeSlice(v.Type(), v.Len(), v.Len()))
		for i := range v.Len() {
			out.Index(i).Set(emptied(v.Index(i)))
		}
	case reflect.Struct:
		for i := range v.NumField() {
			out.Field(i).Set(emptied(v.Field(i)))
		}
	}
	return out
}

// Z3
func TestNilAndEmptyAreTheSame(t *testing.T) {
	calls := callsOfAllKinds()
	for kind := range 20 {
		calls = append(calls, call{"nothing", api.State{Name: "a"}, api.Msg{Kind: kind}})
	}
	for _, x := range calls {
		if x.s.Name == "a" {
			x.s.Got = nil
		}
		want, wantDone := Do(x.s, x.m)
		next, _ := Next(x.s, 1)
		y := call{x.name, emptied(reflect.ValueOf(x.s)).Interface().(api.State), emptied(reflect.ValueOf(x.m)).Interface().(api.Msg)}
		if s, done := checkCall(t, "empty", y); tell(s, done) != tell(want, wantDone) {
			t.Errorf("%s: of empty lists %+v and %+v come, not %+v and %+v", x.name, s, done, want, wantDone)
		}
		if got, _ := Next(y.s, 1); tell(got) != tell(next) {
			t.Errorf("%s: of empty lists %+v comes next, not %+v", x.name, got, next)
		}
	}
}

// Z1: the same answer each time, and calls that run side by side don't disturb each other.
func TestCallsSideBySide(t *testing.T) {
	calls := callsOfAllKinds()
	var all sync.WaitGroup
	for range 8 {
		all.Go(func() {
			for range 3 {
				for _, x := range calls {
					checkCall(t, "side by side", x)
					Next(x.s, 1)
				}
			}
		})
	}
	all.Wait()
}

// Z1: whatever is handed in, nothing panics.
func TestWhateverIsHandedIn(t *testing.T) {
	for _, name := range names {
		for _, n := range []int{-1, 7, 1 << 40, math.MaxInt, math.MinInt} {
			for i := range reflect.TypeFor[api.Msg]().NumField() {
				x := good(name).ready()
				if v := reflect.ValueOf(&x.m).Elem(); v.Type().Field(i).Name != "Kind" {
					fill(v.Field(i), n)
				}
				checkCall(t, "one field", x)
			}
			for i := range reflect.TypeFor[api.State]().NumField() {
				x := good(name).ready()
				fill(reflect.ValueOf(&x.s).Elem().Field(i), n)
				checkCall(t, "one list", x)
				Next(x.s, n)
			}
		}
	}
	for _, x := range wrongStates() {
		for _, name := range names {
			checkCall(t, "a wrong state", call{name, x, good(name).ready().m})
		}
	}
}

// invented is a message of what comes by chance, much of it at the edges: pick answers a number from 0 on, below n.
func invented(pick func(n int) int) call {
	x := good(names[pick(len(names))])
	word := func() string {
		return []string{"ann", "bob", "eve", "#1", "#2", "#6", "", "#", strings.Repeat("x", 40), strings.Repeat("x", 41)}[pick(10)]
	}
	denom := func() string {
		return []string{"gold", "1/tin", "6/gold", "7/gold", "2/tin", "6/tin", "gold", "", "6/", strings.Repeat("y", 40)}[pick(10)]
	}
	number := func() int { return []int{0, 1, 2, 3, 4, 5, 6, 7, 12, 19, 28, -1, api.MaxNum, math.MaxInt}[pick(14)] }
	for range pick(4) {
		switch pick(12) {
		case 0:
			x.m.Kind = pick(20)
		case 1:
			x.m.Client, x.m.End = number(), number()
		case 2:
			x.m.Other, x.m.OtherEnd = number(), number()
		case 3:
			x.own.Purses = fullPurses()
		case 4:
			x.carry(func(t *api.Transfer) {
				t.Denom, t.Sender, t.Reader, t.Amount = denom(), word(), word(), uint64(pick(12))
			})
		case 5:
			x.own.Purses = owned(x.own.Purses, "ann", []string{"1/gold", "1/tin", "2/gold"}[pick(3)], math.MaxUint64-uint64(pick(4)))
		case 6:
			x.own.Chans[1+pick(2)].State = 1 + pick(4)
		case 7:
			x.own.Clients[1].Frozen = true
		case 8:
			x.repack(func(m *api.Msg) { m.Ack = [][]byte{nil, []byte("0"), []byte("1"), []byte("00")}[pick(4)] })
		case 9:
			x.m.Timeout, x.m.Next = number(), number()
		case 10:
			x.own.Time, x.own.Height = 9+pick(20), pick(8)
		case 11:
			x.repack(func(m *api.Msg) { m.Packet.Data = bank.Bytes(usual())[:pick(20)] })
		}
	}
	return x.ready()
}

// M1 to M3: messages by chance.
func TestByChance(t *testing.T) {
	r := rand.New(rand.NewSource(5))
	done := map[bool]int{}
	for range 6000 {
		_, came := checkCall(t, "by chance", invented(r.Intn))
		done[came.Err == api.OK]++
	}
	if done[true] < 1000 || done[false] < 1000 {
		t.Errorf("%v: too few tell anything", done)
	}
}

// FuzzDo holds messages against the reference, of what bytes tell of.
func FuzzDo(f *testing.F) {
	f.Add([]byte{})
	f.Add([]byte("this and that of gold"))
	for i := range names {
		f.Add([]byte{byte(i)})
		f.Add([]byte{byte(i), 1, 4, 1, 1, 2, 3})
		f.Add([]byte{byte(i), 2, 5, 1, 1, 4, 1, 1, 2, 3})
	}
	f.Fuzz(func(t *testing.T, b []byte) {
		pick := func(n int) int {
			if len(b) == 0 {
				return 0
			}
			out := int(b[0]) % n
			b = b[1:]
			return out
		}
		checkCall(t, "invented", invented(pick))
	})
}
