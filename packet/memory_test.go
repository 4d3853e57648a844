package packet

import (
	"bytes"
	"fmt"
	"reflect"
	"slices"
	"sync"
	"testing"

	"landbridge/api"
)

// lists answers all lists that v reaches, each with its spare room.
func lists(v reflect.Value) []reflect.Value {
	var out []reflect.Value
	switch v.Kind() {
	case reflect.Slice:
		if v.Cap() > 0 {
			out = append(out, v.Slice(0, v.Cap()))
		}
		for i := range v.Len() {
			out = append(out, lists(v.Index(i))...)
		}
	case reflect.Struct:
		for i := range v.NumField() {
			out = append(out, lists(v.Field(i))...)
		}
	}
	return out
}

// roomy answers v in memory of its own, with one more of its last entry behind each list.
func roomy(v reflect.Value) reflect.Value {
	out := reflect.New(v.Type()).Elem()
	out.Set(v)
	switch v.Kind() {
	case reflect.Slice:
		if v.Len() == 0 {
			return out
		}
		room := reflect.MakeSlice(v.Type(), v.Len()+1, v.Len()+1)
		for i := range v.Len() + 1 {
			room.Index(i).Set(roomy(v.Index(min(i, v.Len()-1))))
		}
		out.Set(room.Slice(0, v.Len()))
	case reflect.Struct:
		for i := range v.NumField() {
			out.Field(i).Set(roomy(v.Field(i)))
		}
	}
	return out
}

func withRoomBehind[T any](x T) T { return roomy(reflect.ValueOf(x)).Interface().(T) }

// withRoom is for all that a call is handed.
func withRoom(x call) call {
	x.s, x.p, x.w = withRoomBehind(x.s), withRoomBehind(x.p), withRoomBehind(x.w)
	x.data, x.ack = withRoomBehind(x.data), withRoomBehind(x.ack)
	return x
}

func handedIn(x call) []reflect.Value {
	var out []reflect.Value
	for _, part := range []any{x.s, x.p, x.w, x.data, x.ack} {
		out = append(out, lists(reflect.ValueOf(part))...)
	}
	return out
}

// share answers whether two lists have memory in common.
func share(a, b reflect.Value) bool {
	size := func(v reflect.Value) uintptr { return uintptr(v.Len()) * v.Type().Elem().Size() }
	return a.Pointer() < b.Pointer()+size(b) && b.Pointer() < a.Pointer()+size(a)
}

// callsOfAllKinds are good ones, and such that make errors early and late.
func callsOfAllKinds() []call {
	var out []call
	for _, name := range faces {
		out = append(out, good(name).ready())
		for _, f := range faultsOf(name) {
			out = append(out, changed(name, f.change))
		}
	}
	return out
}

// Z2: neither what is handed in nor the room behind it is changed, and that room means nothing.
func TestArgumentsAreOnlyRead(t *testing.T) {
	for _, x := range callsOfAllKinds() {
		plain, plainP, wantErr := x.do()
		x = withRoom(x)
		before := fmt.Sprint(handedIn(x))
		s, p, err := checkCall(t, "with room behind", x)
		if err != wantErr || tell(s, p) != tell(plain, plainP) {
			t.Errorf("%s: with room behind %v, %v and %d come, not %v, %v and %d", x.name, s, p, err, plain, plainP, wantErr)
		}
		Digest(x.p)
		Wrong(x.p)
		if fmt.Sprint(handedIn(x)) != before {
			t.Errorf("%s: an argument or its spare room has changed", x.name)
		}
	}
}

// inOneMemory lets all digests of s be one list: an answer may not share even what its argument does.
func inOneMemory(s api.State) {
	one := s.Clients[1].Known[1].Root
	for _, l := range [][]api.Mark{s.Got, s.Acks} {
		for i := range l {
			l[i].Digest = one
		}
	}
	for _, c := range s.Clients {
		for i := range c.Known {
			c.Known[i].Root, c.Known[i].Next = one, one
		}
	}
}

// Z2: answers share no memory with arguments, with other answers or within themselves, spare room included.
func TestAnswersAreNewMemory(t *testing.T) {
	for _, name := range faces {
		x := withRoom(good(name).ready())
		inOneMemory(x.s)
		first, firstP, err := x.do()
		second, secondP, _ := x.do()
		if err != api.OK {
			t.Fatalf("%s: %d comes", name, err)
		}
		answer := append(lists(reflect.ValueOf(first)), lists(reflect.ValueOf(firstP))...)
		others := slices.Concat(handedIn(x), lists(reflect.ValueOf(second)), lists(reflect.ValueOf(secondP)))
		for i, list := range answer {
			shares := func(other reflect.Value) bool { return share(list, other) }
			if slices.ContainsFunc(others, shares) || slices.ContainsFunc(answer[i+1:], shares) {
				t.Errorf("%s: a list of %d of type %v is shared", name, list.Len(), list.Type())
			}
		}
		for _, list := range answer {
			list.Clear()
		}
		if third, thirdP, _ := checkCall(t, "once more", x); tell(third, thirdP) != tell(second, secondP) {
			t.Errorf("%s: an answer is kept", name)
		}
	}
}

// Z2: the digest of one packet is new memory, too.
func TestDigestsAreNewMemory(t *testing.T) {
	p := good("Recv").p
	first := Digest(p)
	clear(first[:cap(first)])
	if second := Digest(p); !bytes.Equal(second, digestOf(p)) {
		t.Errorf("%x comes", second)
	}
}

// Z3
func TestNilAndEmptyAreTheSame(t *testing.T) {
	for _, name := range faces {
		for _, empty := range []bool{false, true} {
			x := good(name)
			x.own.Purses, x.own.Got, x.own.Acks, x.own.Sent, x.theirs = nil, nil, nil, nil, map[string]string{}
			none := func() []byte { return nil }
			if empty {
				x.own.Purses, x.own.Got, x.own.Acks, x.own.Sent = []api.Purse{}, []api.Mark{}, []api.Mark{}, []api.Mark{}
				none = func() []byte { return []byte{} }
			}
			x.data = none()
			x.repack(func(x *scene) { x.p.Data, x.ack = none(), none() })
			y := x.ready()
			if y.w.Proof.Path = nil; empty {
				y.w.Proof.Path = [][]byte{}
			}
			check(t, fmt.Sprintf("empty %v", empty), y, api.OK)
		}
		for _, none := range [][]api.Chan{nil, {}} {
			check(t, "without channels", changed(name, func(x *scene) { x.own.Chans = none }), api.ErrNone)
		}
		for _, none := range [][]api.Conn{nil, {}} {
			check(t, "without connections", changed(name, func(x *scene) { x.own.Conns = none }), api.ErrNone)
		}
		for _, none := range [][]api.Client{nil, {}} {
			check(t, "without clients", changed(name, func(x *scene) { x.own.Clients = none }), api.ErrNone)
		}
	}
}

// Z1: the same answer each time, and calls that run side by side don't disturb each other.
func TestCallsSideBySide(t *testing.T) {
	calls := callsOfAllKinds()
	var all sync.WaitGroup
	for range 8 {
		all.Go(func() {
			for range 5 {
				for _, x := range calls {
					checkCall(t, "side by side", x)
				}
			}
		})
	}
	all.Wait()
}

// FuzzPacket holds all four against the reference, of numbers and bytes that are told.
func FuzzPacket(f *testing.F) {
	f.Add(byte(0), 1, 0, 0, 0, 7, 0, 0, 14, []byte("data"), []byte{}, true)
	f.Add(byte(1), 2, 0, 0, 0, 7, 0, 0, 27, []byte{}, []byte{}, true)
	f.Add(byte(2), 0, 6, 1, 12, 5, 0, 6, 15, []byte("hello"), []byte("done"), true)
	f.Add(byte(3), 0, 7, 2, 28, 5, 0, 6, 28, []byte("hello"), []byte("done"), true)
	f.Add(byte(4), 0, 1, 6, 12, 5, 0, 6, 1, []byte("hello"), []byte("done"), true)
	f.Add(byte(5), 0, 2, 7, 19, 5, 0, 6, 19, []byte("hello"), []byte("done"), true)
	f.Add(byte(6), 0, 1, 6, 12, 4, 0, 6, 1, []byte("hello"), []byte{}, true)
	f.Add(byte(7), 0, 2, 7, 19, 4, 18, 6, 1, []byte("hello"), []byte{}, true)
	f.Add(byte(7), -1, -1, -1, -1, -1, -1, -1, -1, []byte("whatever"), []byte("else there may be"), false)
	f.Fuzz(func(t *testing.T, face byte, i, from, to, seq, timeout, next, height, turn int, data, ack []byte, laid bool) {
		x := good(faces[int(face)%len(faces)])
		own := x.end()
		own.Send, own.Recv, own.Ack = turn, turn, turn
		x.i, x.data, x.timeout, x.height = i, data, timeout, height
		change := func(x *scene) {
			x.p = api.Packet{From: from, To: to, Seq: seq, Data: data, Timeout: timeout}
			x.ack, x.next = ack, next
		}
		if laid && seq > 0 {
			x.repack(change)
		} else {
			change(&x)
		}
		checkCall(t, "invented", x.ready())
	})
}
