package chans

import (
	"fmt"
	"reflect"
	"slices"
	"sync"
	"testing"

	"landbridge/api"
)

// lists answers all lists that v reaches, each with its spare room.
func lists(v reflect.Value) []reflect.Value {
	var out []reflect.Value
	switch v.Kind() {
	case reflect.Slice:
		if v.Cap() > 0 {
			out = append(out, v.Slice(0, v.Cap()))
		}
		for i := range v.Len() {
			out = append(out, lists(v.Index(i))...)
		}
	case reflect.Struct:
		for i := range v.NumField() {
			out = append(out, lists(v.Field(i))...)
		}
	}
	return out
}

// roomy answers v in memory of its own, with one more of its last entry behind each list.
func roomy(v reflect.Value) reflect.Value {
	out := reflect.New(v.Type()).Elem()
	out.Set(v)
	switch v.Kind() {
	case reflect.Slice:
		if v.Len() == 0 {
			return out
		}
		room := reflect.MakeSlice(v.Type(), v.Len()+1, v.Len()+1)
		for i := range v.Len() + 1 {
			room.Index(i).Set(roomy(v.Index(min(i, v.Len()-1))))
		}
		out.Set(room.Slice(0, v.Len()))
	case reflect.Struct:
		for i := range v.NumField() {
			out.Field(i).Set(roomy(v.Field(i)))
		}
	}
	return out
}

// withRoom is for the state and the proof of a call.
func withRoom(x call) call {
	x.s = roomy(reflect.ValueOf(x.s)).Interface().(api.State)
	x.p = roomy(reflect.ValueOf(x.p)).Interface().(api.Shown)
	return x
}

func handedIn(x call) []reflect.Value {
	return append(lists(reflect.ValueOf(x.s)), lists(reflect.ValueOf(x.p))...)
}

// share answers whether two lists have memory in common.
func share(a, b reflect.Value) bool {
	size := func(v reflect.Value) uintptr { return uintptr(v.Len()) * v.Type().Elem().Size() }
	return a.Pointer() < b.Pointer()+size(b) && b.Pointer() < a.Pointer()+size(a)
}

// callsOfAllKinds are good ones, and such that make errors early and late.
func callsOfAllKinds() []call {
	var out []call
	for _, name := range faces {
		out = append(out, good(name).ready())
		for _, f := range faultsOf(name) {
			out = append(out, changed(name, f.change))
		}
	}
	return out
}

// Z2: neither what is handed in nor the room behind it is changed, and that room means nothing.
func TestArgumentsAreOnlyRead(t *testing.T) {
	for _, x := range callsOfAllKinds() {
		plain, _, wantErr := x.do()
		x = withRoom(x)
		before := fmt.Sprint(handedIn(x))
		s, _, err := checkCall(t, "with room behind", x)
		if err != wantErr || tell(s) != tell(plain) {
			t.Errorf("%s: with room behind %v and %d come, not %v and %d", x.name, s, err, plain, wantErr)
		}
		if fmt.Sprint(handedIn(x)) != before {
			t.Errorf("%s: an argument or its spare room has changed", x.name)
		}
	}
}

// Z2: answers share no memory with arguments, with other answers or within themselves, spare room included.
func TestAnswersAreNewMemory(t *testing.T) {
	for _, name := range faces {
		x := withRoom(good(name).ready())
		// One memory for all digests: an answer may not share even what its argument does.
		one := x.s.Clients[1].Known[1].Root
		for _, l := range [][]api.Mark{x.s.Sent, x.s.Got, x.s.Acks} {
			for i := range l {
				l[i].Digest = one
			}
		}
		for _, c := range x.s.Clients {
			for i := range c.Known {
				c.Known[i].Root, c.Known[i].Next = one, one
			}
		}
		first, _, err := x.do()
		second, _, _ := x.do()
		if err != api.OK {
			t.Fatalf("%s: %d comes", name, err)
		}
		answer := lists(reflect.ValueOf(first))
		others := append(handedIn(x), lists(reflect.ValueOf(second))...)
		for i, list := range answer {
			shares := func(other reflect.Value) bool { return share(list, other) }
			if slices.ContainsFunc(others, shares) || slices.ContainsFunc(answer[i+1:], shares) {
				t.Errorf("%s: a list of %d of type %v is shared", name, list.Len(), list.Type())
			}
		}
		for _, list := range answer {
			list.Clear()
		}
		if third, _, _ := checkCall(t, "once more", x); tell(third) != tell(second) {
			t.Errorf("%s: an answer is kept", name)
		}
	}
}

// Z3
func TestNilAndEmptyAreTheSame(t *testing.T) {
	for _, name := range faces {
		x := good(name)
		x.own = api.State{Name: "a", Time: 9, Clients: x.own.Clients, Conns: x.own.Conns, Chans: x.own.Chans}
		if at, shows := otherEnd(name); shows {
			x.theirs = map[int]api.Chan{at: x.theirs[at]}
		}
		y := x.ready()
		y.p.Proof.Path = nil
		check(t, "nil", y, api.OK)
		y.s.Sent, y.s.Got, y.s.Acks, y.s.Purses = []api.Mark{}, []api.Mark{}, []api.Mark{}, []api.Purse{}
		y.p.Proof.Path = [][]byte{}
		check(t, "empty", y, api.OK)
		for _, none := range [][]api.Client{nil, {}} {
			y.s.Clients = none
			check(t, "without clients", y, api.ErrNone)
		}
		y = x.ready()
		for _, none := range [][]api.Conn{nil, {}} {
			y.s.Conns = none
			check(t, "without connections", y, api.ErrNone)
		}
		y = x.ready()
		want := api.ErrNone
		if !goesOn(name) {
			want = api.OK
		}
		for _, none := range [][]api.Chan{nil, {}} {
			y.s.Chans = none
			check(t, "without channels", y, want)
		}
	}
}

// Z1: the same answer each time, and calls that run side by side don't disturb each other.
func TestCallsSideBySide(t *testing.T) {
	calls := callsOfAllKinds()
	var all sync.WaitGroup
	for range 8 {
		all.Go(func() {
			for range 5 {
				for _, x := range calls {
					checkCall(t, "side by side", x)
				}
			}
		})
	}
	all.Wait()
}

// FuzzChans holds all six against the reference, of numbers that bytes tell of.
func FuzzChans(f *testing.F) {
	f.Add(byte(0), 2, 0, true, 6, 9, 20, 11, []byte{})
	f.Add(byte(1), 2, 9, false, 6, 9, 20, 11, []byte{9, 1, 0, 11, 0})
	f.Add(byte(2), 1, 8, true, 6, 9, 20, 12, []byte{8, 2, 1, 12, 2})
	f.Add(byte(3), 4, 5, true, 6, 9, 20, 0, []byte{5, 3, 1, 0, 5})
	f.Add(byte(4), 3, 0, false, 0, 25, 20, -1, []byte{})
	f.Add(byte(5), 3, 6, false, 6, 9, 20, 7, []byte{6, 4, 0, 7, 4})
	f.Add(byte(1), -1, -1, true, -1, -1, -1, -1, []byte("whatever else there may be"))
	f.Fuzz(func(t *testing.T, face byte, i, other int, ordered bool, height, time, trust, otherConn int, theirs []byte) {
		x := good(faces[int(face)%len(faces)])
		x.i, x.other, x.ordered, x.height = i, other, ordered, height
		x.own.Time, x.own.Clients[1].Trust, x.own.Conns[2].OtherConn = time, trust, otherConn
		x.key = keyText(other)
		for len(theirs) >= 5 {
			x.theirs[int(theirs[0])] = api.Chan{State: int(theirs[1]), Ordered: theirs[2]%2 == 1, Conn: int(theirs[3]), OtherChan: int(theirs[4]) - 1}
			theirs = theirs[5:]
		}
		checkCall(t, "invented", x.ready())
	})
}
