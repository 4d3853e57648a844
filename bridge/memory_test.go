package bridge

import (
	"fmt"
	"math"
	"reflect"
	"slices"
	"strings"
	"sync"
	"testing"

	"landbridge/api"
	"landbridge/bank"
	"landbridge/proof"
	"landbridge/state"
)

// lists answers all lists that v reaches, each with its spare room.
func lists(v reflect.Value) []reflect.Value {
	var out []reflect.Value
	switch v.Kind() {
	case reflect.Slice:
		if v.Cap() > 0 {
			out = append(out, v.Slice(0, v.Cap()))
		}
		for i := range v.Len() {
			out = append(out, lists(v.Index(i))...)
		}
	case reflect.Struct:
		for i := range v.NumField() {
			out = append(out, lists(v.Field(i))...)
		}
	}
	return out
}

func listsOf(l ...any) []reflect.Value {
	var out []reflect.Value
	for _, x := range l {
		out = append(out, lists(reflect.ValueOf(x))...)
	}
	return out
}

// rebuilt answers v in memory of its own, with so many more of its last entry behind each list, and an empty list where there is none.
func rebuilt(v reflect.Value, more int) reflect.Value {
	out := reflect.New(v.Type()).Elem()
	out.Set(v)
	switch v.Kind() {
	case reflect.Slice:
		if v.Len() == 0 {
			out.Set(reflect.MakeSlice(v.Type(), 0, more))
			return out
		}
		room := reflect.MakeSlice(v.Type(), v.Len()+more, v.Len()+more)
		for i := range v.Len() + more {
			room.Index(i).Set(rebuilt(v.Index(min(i, v.Len()-1)), more))
		}
		out.Set(room.Slice(0, v.Len()))
	case reflect.Struct:
		for i := range v.NumField() {
			out.Field(i).Set(rebuilt(v.Field(i), more))
		}
	}
	return out
}

func rebuiltStory(l []api.Ev, more int) []api.Ev {
	return rebuilt(reflect.ValueOf(l), more).Interface().([]api.Ev)
}

// share answers whether two lists have memory in common.
func share(a, b reflect.Value) bool {
	size := func(v reflect.Value) uintptr { return uintptr(v.Len()) * v.Type().Elem().Size() }
	return a.Pointer() < b.Pointer()+size(b) && b.Pointer() < a.Pointer()+size(a)
}

// stories have some of everything: messages that hand in all kinds of lists, packets on their way, marks of all kinds, and errors.
func stories(t testing.TB) [][]api.Ev {
	out := [][]api.Ev{nil, {{}}, {ends(0), ends(1), {Kind: api.EvClient, Trust: 5}}}
	for _, w := range ways {
		x, p := sent(t, w, 100)
		x.must(t, api.OK, ends(w.side))
		x.must(t, api.OK, follow(1-w.side, w.far))
		x.must(t, api.OK, show(1-w.side, api.Msg{Kind: api.MsgRecv, Packet: p}))
		again := api.Msg{Kind: api.MsgSend, End: w.from, Timeout: 90}
		again.Transfer, _ = bank.Parse(p.Data)
		q := x.must(t, api.OK, ask(w.side, again)).Packet
		far := x.sides[w.side].ended[len(x.sides[w.side].ended)-1]
		known := knownOf(headerOf(far))
		x.must(t, api.OK, ask(1-w.side, api.Msg{Kind: api.MsgClient, Chain: far.Name, Trust: 90, Known: known}))
		x.must(t, api.OK, ends(w.side))
		end := len(x.sides[w.side].ended) - 1
		u := api.Update{From: far.Height, Signed: signed(headerOf(x.sides[w.side].ended[end]), seedsOf(far.Name)...), Trusted: valsOf(far.Name)}
		x.must(t, api.OK, ask(1-w.side, api.Msg{Kind: api.MsgFollow, Client: len(x.sides[1-w.side].now.Clients) - 1, Update: u, Second: u}))
		x.must(t, api.OK, follow(1-w.side, w.far))
		m := api.Msg{Kind: api.MsgRecv, Packet: q, Ack: []byte("no"), Shown: api.Shown{Height: end + 1}}
		pairs, _ := state.Book(x.sides[w.side].ended[end])
		m.Shown.Proof, _ = proof.Show(pairs, []byte(fmt.Sprintf("sent/%d/%d", q.From, q.Seq)))
		m.Shown.Gap, _ = proof.ShowGap(pairs, []byte("got/9/9"))
		x.must(t, api.OK, ask(1-w.side, m))
		x.happen(ask(1-w.side, m))
		x.happen(show(w.side, api.Msg{Kind: api.MsgAck, Packet: p, Ack: []byte("1")}))
		out = append(out, x.l, Link(w.ordered, 60))
	}
	return out
}

// Z2: neither what is handed in nor the room behind it is changed, and that room means nothing. Z3: nor does it mean anything whether a list without entries is nil.
func TestArgumentsAreOnlyRead(t *testing.T) {
	for i, l := range stories(t) {
		w, done, _ := Play(l)
		for _, more := range []int{0, 1} {
			x := rebuiltStory(l, more)
			before := fmt.Sprint(listsOf(x))
			again, done2, _ := Play(x)
			if tell(again, done2) != tell(w, done) {
				t.Errorf("story %d, with %d more behind: %+v and %+v come, not %+v and %+v", i, more, again, done2, w, done)
			}
			if fmt.Sprint(listsOf(x)) != before {
				t.Errorf("story %d: an argument or its spare room has changed", i)
			}
		}
	}
}

// Z2: answers share no memory with arguments, with other answers or within themselves, spare room included, and hang on nothing that was handed in.
func TestAnswersAreNewMemory(t *testing.T) {
	for i, l := range stories(t) {
		x := rebuiltStory(l, 1)
		first, done, _ := Play(x)
		second, again, _ := Play(x)
		kept := tell(second, again)
		answer, others := listsOf(first, done), listsOf(x, second, again)
		for j, list := range answer {
			shares := func(other reflect.Value) bool { return share(list, other) }
			if slices.ContainsFunc(others, shares) || slices.ContainsFunc(answer[j+1:], shares) {
				t.Errorf("story %d: a list of %d of type %v is shared", i, list.Len(), list.Type())
			}
		}
		for _, list := range append(answer, listsOf(x)...) {
			list.Clear()
		}
		if tell(second, again) != kept {
			t.Errorf("story %d: an answer is shared", i)
		}
		if third, done, _ := Play(l); tell(third, done) != kept {
			t.Errorf("story %d: an answer is kept", i)
		}
	}
	a, b := Link(true, 5), Link(true, 5)
	for _, list := range listsOf(a) {
		if slices.ContainsFunc(listsOf(b), func(other reflect.Value) bool { return share(list, other) }) {
			t.Error("two links share memory")
		}
	}
	clear(a[:cap(a)])
	if tell(b) != tell(wantedLink(true, 5)) || tell(Link(true, 5)) != tell(b) {
		t.Error("a link is kept")
	}
}

// Z5: fields that an event's kind has not mean nothing, whatever stands in them; those that it has do.
func TestFieldsOfKinds(t *testing.T) {
	has := map[int]string{api.EvBlock: "Later", api.EvClient: "Trust", api.EvFollow: "Client", api.EvMsg: "Msg", api.EvShow: "Msg"}
	for _, n := range []int{1, -5, 1000, math.MinInt, math.MaxInt} {
		for kind, field := range has {
			x := linked(t, false)
			x.must(t, api.OK, ends(0))
			x.must(t, api.OK, ends(1))
			e := api.Ev{Kind: kind, Later: 4, Trust: 5, Msg: api.Msg{Kind: api.MsgConnTry}}
			if kind == api.EvMsg {
				e.Msg = api.Msg{Kind: api.MsgChanInit}
			}
			plain := told(append(slices.Clone(x.l), e))
			odd := api.Ev{Kind: kind, Later: n, Trust: n, Client: n, Msg: api.Msg{Kind: api.MsgClose}}
			reflect.ValueOf(&odd).Elem().FieldByName(field).Set(reflect.ValueOf(e).FieldByName(field))
			w, done := play(t, append(slices.Clone(x.l), odd)...)
			if got := tell(w, done); got != tell(api.World{Left: plain.sides[0].now, Right: plain.sides[1].now}, plain.done) {
				t.Errorf("kind %d: with other fields %s comes", kind, got)
			}
			reflect.ValueOf(&e).Elem().FieldByName(field).Set(reflect.ValueOf(api.Ev{Later: n, Trust: n, Client: n, Msg: api.Msg{Kind: api.MsgClose}}).FieldByName(field))
			w2, done2 := play(t, append(slices.Clone(x.l), e)...)
			if tell(w2, done2) == tell(w, done) {
				t.Errorf("kind %d: %s means nothing", kind, field)
			}
		}
	}
}

// Z1: the same answer each time, and calls that run side by side don't disturb each other.
func TestCallsSideBySide(t *testing.T) {
	l := stories(t)
	var want []string
	for _, x := range l {
		w, done, _ := Play(x)
		want = append(want, tell(w, done))
	}
	var all sync.WaitGroup
	for range 8 {
		all.Go(func() {
			for i, x := range l {
				if w, done, _ := Play(x); tell(w, done) != want[i] {
					t.Errorf("story %d: another answer comes", i)
				}
			}
		})
	}
	all.Wait()
}

// fill lays something odd into v, and into all that it has.
func fill(v reflect.Value, n int) {
	switch v.Kind() {
	case reflect.Bool:
		v.SetBool(!v.Bool())
	case reflect.Int:
		v.SetInt(v.Int() + int64(n))
	case reflect.Uint64:
		v.SetUint(v.Uint() + uint64(n))
	case reflect.Uint8:
		v.SetUint(v.Uint() ^ 0x55)
	case reflect.String:
		v.SetString(strings.Repeat("#", 1+n&63))
	case reflect.Slice:
		v.Set(reflect.MakeSlice(v.Type(), 3, 3))
		for i := range 3 {
			fill(v.Index(i), n)
		}
	case reflect.Struct:
		for i := range v.NumField() {
			fill(v.Field(i), n)
		}
	}
}

// Z1: whatever is handed in, nothing panics.
func TestWhateverIsHandedIn(t *testing.T) {
	for i, l := range stories(t) {
		for _, n := range []int{-1, 3, 1 << 40, math.MaxInt, math.MinInt} {
			whole := make([]api.Ev, len(l))
			for j := range whole {
				fill(reflect.ValueOf(&whole[j]).Elem(), n)
				whole[j].Side, whole[j].Kind = j&1, j%6
				whole[j].Msg.Kind = j % 20
			}
			told(whole).check(t)
			for field := range reflect.TypeFor[api.Ev]().NumField() {
				x := slices.Clone(l)
				if len(x) > 0 {
					fill(reflect.ValueOf(&x[(7*i+field)%len(x)]).Elem().Field(field), n)
				}
				told(x).check(t)
			}
		}
	}
}
