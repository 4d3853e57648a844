package packet

import (
	"bytes"
	"fmt"
	"math"
	"testing"

	"landbridge/api"
	"landbridge/book"
	"landbridge/proof"
	"landbridge/state"
)

// K2: a packet must be one: its numbers, its bytes.
func TestSentPackets(t *testing.T) {
	for _, name := range []string{"Send", "Send*"} {
		for _, n := range edges {
			want := api.OK
			switch {
			case n < 1 || n > 1000000000000:
				want = api.ErrRange
			case n <= 6:
				want = api.ErrTime
			}
			check(t, fmt.Sprintf("timeout %d", n), changed(name, func(x *scene) { x.timeout = n }), want)
		}
		for size, want := range map[int]api.Errno{0: api.OK, 1: api.OK, 149: api.OK, 150: api.OK, 151: api.ErrMuch, 1 << 20: api.ErrMuch} {
			check(t, fmt.Sprintf("%d bytes", size), changed(name, func(x *scene) { x.data = bytes.Repeat([]byte{1}, size) }), want)
		}
		for n, want := range map[int]api.Errno{-1: api.ErrRange, 0: api.OK, 1: api.OK, api.MaxNum: api.OK} {
			check(t, fmt.Sprintf("OtherChan %d", n), changed(name, func(x *scene) { x.end().OtherChan = n }), want)
		}
		for n, want := range map[int]api.Errno{1: api.OK, 2: api.OK, 1 << 32: api.OK, api.MaxNum - 1: api.OK, api.MaxNum: api.ErrMany} {
			check(t, fmt.Sprintf("Send %d", n), changed(name, func(x *scene) { x.end().Send = n }), want)
		}
	}
}

// K2: what the connection's client knows last tells whether a packet would be late already.
func TestSentInTime(t *testing.T) {
	for _, name := range []string{"Send", "Send*"} {
		for height, want := range map[int]api.Errno{4: api.OK, 19: api.OK, 20: api.ErrTime, 21: api.ErrTime, api.MaxNum: api.ErrTime} {
			check(t, fmt.Sprintf("height %d", height), changed(name, func(x *scene) {
				x.timeout = 20
				x.own.Clients[1].Known[1].Height = height
			}), want)
		}
		check(t, "one height alone", changed(name, func(x *scene) { x.own.Clients[1].Known = x.own.Clients[1].Known[:1] }), api.OK)
		check(t, "other clients know more", changed(name, func(x *scene) {
			x.own.Clients[0].Known[1].Height, x.own.Clients[2].Known[1].Height = 100, 100
		}), api.OK)
		check(t, "one's own height", changed(name, func(x *scene) { x.own.Height = 100 }), api.OK)
		check(t, "as late as can be", changed(name, func(x *scene) {
			x.timeout, x.own.Clients[1].Known[1].Height = api.MaxNum, api.MaxNum-1
		}), api.OK)
	}
}

// K2 and K3: there are no more than MaxMarks, of those that a call may add to, and of no others.
func TestHowMany(t *testing.T) {
	for _, name := range faces {
		for count := 48; count <= 50; count++ {
			for kind, of := range map[string]func(s *api.State) *[]api.Mark{
				"Send": func(s *api.State) *[]api.Mark { return &s.Sent },
				"Recv": func(s *api.State) *[]api.Mark { return &s.Got },
				"recv": func(s *api.State) *[]api.Mark { return &s.Acks },
			} {
				want := api.OK
				if count == 50 && (kind == face(name) || kind == "recv" && face(name) == "Recv") {
					want = api.ErrMany
				}
				check(t, fmt.Sprintf("%d of %s", count, kind), changed(name, func(x *scene) {
					if *of(&x.own) = many()[:count]; kind == "Send" && settles(name) {
						*of(&x.own) = (*of(&x.own))[1:]
						x.lay()
					}
				}), want)
			}
		}
	}
	// Even where a mark would not be one more.
	for _, name := range []string{"Recv", "Recv*"} {
		check(t, "an answer that there is", changed(name, func(x *scene) {
			x.own.Acks = put(many()[1:], x.p.To, x.p.Seq, filled(9))
		}), api.ErrMany)
	}
	for _, name := range []string{"Send", "Send*"} {
		check(t, "one sent that there is", changed(name, func(x *scene) {
			x.own.Sent = put(many()[1:], x.i, x.end().Send, filled(9))
		}), api.ErrMany)
	}
}

// K3 and K4: a packet that is none is refused, whatever else is true of it.
func TestPacketsThatAreNone(t *testing.T) {
	for _, name := range carrying {
		for _, field := range numbersOfPackets {
			for _, n := range []int{math.MinInt, -1, api.MaxNum + 1, math.MaxInt} {
				check(t, fmt.Sprintf("%s %d", field.name, n), changed(name, func(x *scene) { *field.of(&x.p) = n }), api.ErrRange)
			}
		}
		check(t, "no number", changed(name, func(x *scene) { x.p.Seq = 0 }), api.ErrRange)
		check(t, "no end", changed(name, func(x *scene) { x.p.Timeout = 0 }), api.ErrRange)
		for size, want := range map[int]api.Errno{0: api.OK, 150: api.OK, 151: api.ErrMuch} {
			check(t, fmt.Sprintf("%d bytes", size), repacked(name, func(x *scene) { x.p.Data = make([]byte, size) }), want)
		}
	}
}

// K3 and K4: answers are of at most MaxData bytes.
func TestHowMuchIsAnswered(t *testing.T) {
	for name, much := range map[string]api.Errno{"Recv": api.ErrMany, "Recv*": api.ErrMany, "Ack": api.ErrMuch, "Ack*": api.ErrMuch} {
		for size, want := range map[int]api.Errno{0: api.OK, 1: api.OK, 55: api.OK, 56: api.OK, 64: api.OK, 150: api.OK, 151: much, 1 << 20: much} {
			check(t, fmt.Sprintf("%d bytes", size), repacked(name, func(x *scene) { x.ack = bytes.Repeat([]byte{2}, size) }), want)
		}
	}
}

// K3 and K4: the other end's number is the packet's.
func TestOtherEnds(t *testing.T) {
	for _, name := range carrying {
		for _, n := range []int{-1, 0, 1, 2, 5, 6, 7, 8, api.MaxNum} {
			want := api.ErrFit
			if right := good(name); n == right.end().OtherChan {
				want = api.OK
			}
			check(t, fmt.Sprintf("OtherChan %d", n), changed(name, func(x *scene) { x.end().OtherChan = n }), want)
			if n < 0 {
				continue
			}
			other := func(x *scene) {
				if face(name) == "Recv" {
					x.p.From = n
				} else {
					x.p.To = n
				}
			}
			check(t, fmt.Sprintf("a packet of %d", n), repacked(name, other), want)
			check(t, fmt.Sprintf("both of %d", n), repacked(name, func(x *scene) {
				x.end().OtherChan = n
				delete(x.theirs, "got/6/11")
				other(x)
			}), api.OK)
		}
	}
}

// K3: the state's own height tells whether a packet is late.
func TestReceivedInTime(t *testing.T) {
	for _, name := range []string{"Recv", "Recv*"} {
		for height, want := range map[int]api.Errno{0: api.OK, 19: api.OK, 20: api.ErrTime, 21: api.ErrTime, api.MaxNum: api.ErrTime} {
			check(t, fmt.Sprintf("height %d", height), repacked(name, func(x *scene) { x.p.Timeout, x.own.Height = 20, height }), want)
		}
		check(t, "as late as can be", repacked(name, func(x *scene) { x.p.Timeout, x.own.Height = api.MaxNum, api.MaxNum-1 }), api.OK)
		check(t, "never", repacked(name, func(x *scene) { x.p.Timeout, x.own.Height = api.MaxNum, api.MaxNum }), api.ErrTime)
		check(t, "the first height", repacked(name, func(x *scene) { x.p.Timeout, x.own.Height = 1, 0 }), api.OK)
		check(t, "what the client knows means nothing", repacked(name, func(x *scene) { x.p.Timeout, x.own.Height = 2, 1 }), api.OK)
	}
}

// K3: in order a packet's number is the next one; out of order it is a new one.
func TestReceivedOnce(t *testing.T) {
	for _, n := range []int{1, 2, 11, 12, 13, 26, 27, 28, 29, 30, api.MaxNum - 1, api.MaxNum} {
		inOrder, outOfOrder := api.ErrState, api.OK
		if n == 28 {
			inOrder = api.OK
		}
		if n == 11 || n == 13 {
			outOfOrder = api.ErrState
		}
		check(t, fmt.Sprintf("number %d", n), repacked("Recv*", func(x *scene) { x.p.Seq = n }), inOrder)
		check(t, fmt.Sprintf("number %d", n), repacked("Recv", func(x *scene) { x.p.Seq = n }), outOfOrder)
		want := api.OK
		if n == api.MaxNum {
			want = api.ErrMany
		}
		check(t, fmt.Sprintf("the next one is %d", n), repacked("Recv*", func(x *scene) { x.p.Seq, x.own.Chans[2].Recv = n, n }), want)
		check(t, fmt.Sprintf("the next one would be %d", n), repacked("Recv", func(x *scene) { x.own.Chans[1].Recv = n }), want)
	}
	check(t, "out of turn, where no turn is left", changed("Recv*", func(x *scene) { x.own.Chans[2].Recv = api.MaxNum }), api.ErrState)
	// Marks of other channels, and of other kinds, are not this packet's.
	check(t, "another channel's", changed("Recv", func(x *scene) {
		x.own.Got = []api.Mark{mark(0, 12, filled(1)), mark(2, 12, filled(1)), mark(6, 12, filled(1))}
	}), api.OK)
	check(t, "other marks", changed("Recv", func(x *scene) {
		x.own.Got, x.own.Sent, x.own.Acks = nil, put(nil, 1, 12, filled(1)), put(nil, 1, 12, filled(1))
	}), api.OK)
	check(t, "the same one", changed("Recv", func(x *scene) { x.own.Got = put(x.own.Got, 1, 12, digestOf(x.p)) }), api.ErrState)
	check(t, "in order marks mean nothing", changed("Recv*", func(x *scene) { x.own.Got = put(x.own.Got, 2, 28, digestOf(x.p)) }), api.OK)
}

// K4: what was sent is known by its mark, and is just that packet.
func TestOfWhatWasSent(t *testing.T) {
	for _, name := range []string{"Ack", "Ack*", "Timeout", "Timeout*"} {
		for note, change := range map[string]func(x *scene){
			"nothing":         func(x *scene) { x.own.Sent = nil },
			"no such mark":    func(x *scene) { x.own.Sent = take(x.own.Sent, x.p.From, x.p.Seq) },
			"another channel": func(x *scene) { x.own.Sent = put(nil, x.p.From+1, x.p.Seq, digestOf(x.p)) },
			"another number":  func(x *scene) { x.own.Sent = put(nil, x.p.From, x.p.Seq+1, digestOf(x.p)) },
			"the other end's": func(x *scene) { x.own.Sent = put(nil, x.p.To, x.p.Seq, digestOf(x.p)) },
			"what was got": func(x *scene) {
				x.own.Got, x.own.Sent = put(nil, x.p.From, x.p.Seq, digestOf(x.p)), nil
			},
			"what was answered": func(x *scene) {
				x.own.Acks, x.own.Sent = put(nil, x.p.From, x.p.Seq, digestOf(x.p)), nil
			},
		} {
			check(t, note, changed(name, change), api.ErrNone)
		}
		for note, change := range map[string]func(x *scene){
			"other bytes":    func(x *scene) { x.p.Data = []byte("hallo") },
			"no bytes":       func(x *scene) { x.p.Data = nil },
			"more bytes":     func(x *scene) { x.p.Data = append(x.p.Data, 0) },
			"later":          func(x *scene) { x.p.Timeout++ },
			"earlier":        func(x *scene) { x.p.Timeout-- },
			"another digest": func(x *scene) { x.own.Sent = put(x.own.Sent, x.p.From, x.p.Seq, filled(0)) },
			"the last byte":  func(x *scene) { x.own.Sent = put(x.own.Sent, x.p.From, x.p.Seq, spoilt(digestOf(x.p), 31)) },
			"the first byte": func(x *scene) { x.own.Sent = put(x.own.Sent, x.p.From, x.p.Seq, spoilt(digestOf(x.p), 0)) },
			"another's": func(x *scene) {
				x.own.Sent = put(x.own.Sent, x.p.From, x.p.Seq, digestOf(api.Packet{Seq: 1, Timeout: 1}))
			},
			"another end":   func(x *scene) { x.end().OtherChan, x.p.To = 9, 9 },
			"the first end": func(x *scene) { x.end().OtherChan, x.p.To = 0, 0 },
		} {
			check(t, note, changed(name, change), api.ErrFit)
		}
	}
}

func spoilt(digest []byte, place int) []byte {
	digest[place]++
	return digest
}

// K4: in order packets are acknowledged one by one.
func TestAcknowledgedInOrder(t *testing.T) {
	for _, n := range []int{1, 18, 19, 20, api.MaxNum - 1, api.MaxNum} {
		inOrder, next := api.ErrState, api.OK
		if n == 19 {
			inOrder = api.OK
		}
		if n == api.MaxNum {
			next = api.ErrMany
		}
		check(t, fmt.Sprintf("number %d", n), repacked("Ack*", func(x *scene) { x.p.Seq = n }), inOrder)
		check(t, fmt.Sprintf("the next one is %d", n), repacked("Ack*", func(x *scene) { x.p.Seq, x.own.Chans[2].Ack = n, n }), next)
		check(t, fmt.Sprintf("number %d", n), repacked("Ack", func(x *scene) { x.p.Seq, x.own.Chans[1].Ack = n, api.MaxNum }), api.OK)
		check(t, fmt.Sprintf("number %d", n), repacked("Timeout*", func(x *scene) { x.p.Seq, x.own.Chans[2].Ack, x.next = n, api.MaxNum, 1 }), api.OK)
	}
}

// K4: it is told first that it is not the packet's turn.
func TestOutOfTurnWhereNoTurnIsLeft(t *testing.T) {
	check(t, "the last turn", changed("Ack*", func(x *scene) { x.own.Chans[2].Ack = api.MaxNum }), api.ErrState)
}

// K4: the height at which it is shown that a packet was not received tells whether it is late.
func TestTooLate(t *testing.T) {
	for _, name := range []string{"Timeout", "Timeout*"} {
		for timeout, want := range map[int]api.Errno{1: api.OK, 5: api.OK, 6: api.OK, 7: api.ErrTime, api.MaxNum: api.ErrTime} {
			check(t, fmt.Sprintf("timeout %d", timeout), repacked(name, func(x *scene) { x.p.Timeout = timeout }), want)
		}
		for height, want := range map[int]api.Errno{math.MinInt: api.ErrTime, -1: api.ErrTime, 3: api.ErrTime, 4: api.ErrNone, 5: api.ErrNone, 6: api.OK, 7: api.ErrNone, math.MaxInt: api.ErrNone} {
			check(t, fmt.Sprintf("height %d", height), changed(name, func(x *scene) { x.height = height }), want)
		}
		check(t, "one's own height means nothing", changed(name, func(x *scene) { x.own.Height = 0 }), api.OK)
		check(t, "ahead of it, and not shown", repacked(name, func(x *scene) { x.p.Timeout, x.height = 3, 3 }), api.ErrProof)
	}
}

// K4: in order what is received next is not behind the packet.
func TestWhatIsReceivedNext(t *testing.T) {
	for _, n := range edges {
		want := api.ErrState
		if n >= 1 && n <= 19 {
			want = api.OK
		}
		check(t, fmt.Sprintf("next %d", n), repacked("Timeout*", func(x *scene) { x.next = n }), want)
	}
	for n, want := range map[int]api.Errno{18: api.OK, 19: api.OK, 20: api.ErrState} {
		check(t, fmt.Sprintf("next %d", n), repacked("Timeout*", func(x *scene) { x.next = n }), want)
	}
	check(t, "as great as can be", repacked("Timeout*", func(x *scene) { x.next, x.p.Seq = api.MaxNum, api.MaxNum }), api.OK)
	check(t, "another one is shown", changed("Timeout*", func(x *scene) { x.next = 17 }), api.ErrProof)
	check(t, "more than this number", changed("Timeout*", func(x *scene) { x.theirs[x.key] += "\x00" }), api.ErrProof)
	check(t, "of another channel", changed("Timeout*", func(x *scene) { x.theirs["next/6"], x.key = numberText(18), "next/6" }), api.ErrProof)
	check(t, "a gap", changed("Timeout*", func(x *scene) { x.key = "got/7/19" }), api.ErrProof)
}

// K4: out of order it must be missing that it was received, and nothing else.
func TestWhatIsMissing(t *testing.T) {
	for note, change := range map[string]func(x *scene){
		"it was received":             func(x *scene) { x.theirs[x.key] = "received" },
		"it was received, another is": func(x *scene) { x.theirs[x.key], x.key = "received", "got/6/14" },
		"another one is missing":      func(x *scene) { x.key = "got/6/14" },
		"one without neighbours":      func(x *scene) { x.key = "zzz" },
		"it was not sent":             func(x *scene) { x.key = "sent/6/12" },
		"what is received next":       func(x *scene) { x.key = "next/6" },
	} {
		check(t, note, changed("Timeout", change), api.ErrProof)
	}
	check(t, "nothing stands there", changed("Timeout", func(x *scene) { clear(x.theirs) }), api.OK)
	check(t, "all is less", changed("Timeout", func(x *scene) { x.theirs = map[string]string{"conn/0": "c"} }), api.OK)
	check(t, "all is greater", changed("Timeout", func(x *scene) { x.theirs = map[string]string{"sent/1/1": "c"} }), api.OK)
	check(t, "its answer stands there", changed("Timeout", func(x *scene) { x.theirs["ack/6/12"] = "a" }), api.OK)
	check(t, "another key between the same two", changed("Timeout", func(x *scene) { x.key = "got/6/121" }), api.OK)
}

// proving are those that must be shown that something stands there.
var proving = []string{"Recv", "Recv*", "Ack", "Ack*", "Timeout*"}

// K3 and K4: what is shown, and of when.
func TestHowItMustBeShown(t *testing.T) {
	for _, name := range proving {
		if name != "Timeout*" {
			for height, want := range map[int]api.Errno{6: api.OK, 3: api.ErrProof, 5: api.ErrNone, 7: api.ErrNone, 0: api.ErrNone, -1: api.ErrNone, math.MinInt: api.ErrNone, math.MaxInt: api.ErrNone} {
				check(t, fmt.Sprintf("height %d", height), changed(name, func(x *scene) { x.height = height }), want)
			}
		}
		for note, spoil := range map[string]func(p *api.Proof){
			"nothing":          func(p *api.Proof) { *p = api.Proof{} },
			"no key":           func(p *api.Proof) { p.Key = nil },
			"a longer key":     func(p *api.Proof) { p.Key = append(p.Key, '0') },
			"no value":         func(p *api.Proof) { p.Val = nil },
			"another value":    func(p *api.Proof) { p.Val[2]++ },
			"a longer value":   func(p *api.Proof) { p.Val = append(p.Val, 0) },
			"another place":    func(p *api.Proof) { p.Index++ },
			"no place":         func(p *api.Proof) { p.Index = math.MinInt },
			"another size":     func(p *api.Proof) { p.Size = 2 },
			"a great size":     func(p *api.Proof) { p.Size = math.MaxInt },
			"no way":           func(p *api.Proof) { p.Path = nil },
			"another way":      func(p *api.Proof) { p.Path[0][0]++ },
			"a way of nothing": func(p *api.Proof) { p.Path[0] = nil },
			"a very long way":  func(p *api.Proof) { p.Path = make([][]byte, 1<<16) },
		} {
			x := good(name).ready()
			spoil(&x.w.Proof)
			check(t, note, x, api.ErrProof)
		}
		// A gap shows nothing here.
		x := changed(name, func(x *scene) { clear(x.theirs) })
		check(t, "a gap", x, api.ErrProof)
		x = good(name).ready()
		x.w.Gap = api.Gap{HasLeft: true, HasRight: true, Left: api.Proof{Size: -1}}
		check(t, "a gap beside", x, api.OK)
	}
	x := good("Timeout").ready()
	x.w.Proof = api.Proof{Index: -1, Size: math.MaxInt, Path: make([][]byte, 9)}
	check(t, "a proof beside", x, api.OK)
	x.w.Gap = api.Gap{}
	check(t, "no gap", x, api.ErrProof)
}

// K3 and K4: what stands there is of this packet, or of this answer, under its own numbers.
func TestWhatMustBeShown(t *testing.T) {
	for _, name := range []string{"Recv", "Recv*", "Ack", "Ack*"} {
		check(t, "another value", changed(name, func(x *scene) { x.theirs[x.key] = string(filled(1)) }), api.ErrProof)
		check(t, "no value", changed(name, func(x *scene) { x.theirs[x.key] = "" }), api.ErrProof)
		val := good(name).theirs[good(name).key]
		p := good(name).p
		for _, kind := range []string{"sent", "got", "ack", "next"} {
			for _, ch := range []int{p.From, p.To} {
				for _, seq := range []int{p.Seq, p.Seq + 1, p.Seq - 1} {
					key := fmt.Sprintf("%s/%d/%d", kind, ch, seq)
					want := api.ErrProof
					if key == good(name).key {
						want = api.OK
					}
					check(t, key, changed(name, func(x *scene) { x.theirs[key], x.key = val, key }), want)
				}
			}
		}
	}
	for _, name := range []string{"Recv", "Recv*"} {
		check(t, "other bytes", changed(name, func(x *scene) { x.p.Data = []byte("hallo") }), api.ErrProof)
		check(t, "later", changed(name, func(x *scene) { x.p.Timeout++ }), api.ErrProof)
		check(t, "any answer", changed(name, func(x *scene) { x.ack = []byte("no") }), api.OK)
	}
	for _, name := range []string{"Ack", "Ack*"} {
		check(t, "another answer", changed(name, func(x *scene) { x.ack = []byte("no") }), api.ErrProof)
		check(t, "no answer", changed(name, func(x *scene) { x.ack = nil }), api.ErrProof)
		check(t, "the answer itself", changed(name, func(x *scene) { x.theirs[x.key] = "done" }), api.ErrProof)
	}
}

// K3 and K4: what is shown must be shown to the connection's client, not to another one.
func TestToWhomItIsShown(t *testing.T) {
	for _, name := range carrying {
		x := changed(name, func(x *scene) {
			x.own.Conns[2].Client = 2
			x.repack(func(x *scene) { x.p.Timeout = 5 })
		})
		check(t, "client 1 alone would believe it", x, api.ErrProof)
		x.s.Clients[2].Known[1].Root = x.s.Clients[1].Known[1].Root
		x.s.Clients[1].Known[1].Root = filled(9)
		check(t, "client 2 believes it", x, api.OK)
	}
}

// K3 and K4: keys and values are just those of a state's book, as package state makes it.
func TestShownOfStates(t *testing.T) {
	for _, name := range carrying {
		x := good(name)
		theirs := api.State{Name: "b", Height: 6, Time: 6, Got: []api.Mark{mark(6, 11, filled(1)), mark(6, 13, filled(2))}}
		for n := range 8 {
			theirs.Chans = append(theirs.Chans, api.Chan{State: api.ChOpen, Ordered: n == 7, OtherChan: 1, Send: n + 1, Recv: n + 2, Ack: n + 3})
		}
		theirs.Sent = put(nil, x.p.From, x.p.Seq, digestOf(x.p))
		theirs.Acks = put(nil, x.p.To, x.p.Seq, sumOf(x.ack))
		theirs.Chans[7].Recv = x.next
		pairs, err := state.Book(theirs)
		if err != api.OK {
			t.Fatal(err)
		}
		y := x.ready()
		y.s.Clients[1].Known[1].Root, _ = book.Root(pairs)
		y.w = shownOf(pairs, 6, x.key)
		check(t, "of a state", y, api.OK)
		if !proof.Shown(y.s.Clients[1].Known[1].Root, y.w.Proof) && name != "Timeout" {
			t.Errorf("%s: nothing is shown", name)
		}
	}
}
