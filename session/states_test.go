package session_test

import (
	"slices"
	"testing"

	"catenary/api"
)

// fields are all fields of a segment that are numbers.
func fields(s *api.Seg) []*int {
	return []*int{&s.Kind, &s.To, &s.From, &s.Hops, &s.Epoch, &s.Boot, &s.Seq, &s.Ack}
}

// values are what each of the fields is tried with.
var values = [][]int{
	{-1, 0, 1, 2, 3, 4, 5, 6, 1<<32 + 5},
	{-1, 0, 1, 2, 3, 7, 1<<32 + 2},
	{-1, 0, 1, 2, 3, 7, 1<<32 + 2},
	{-1, 0, 11, 12, 13},
	{-1, 0, 1, 6, 7, 8, lastLong, lastLong + 1, 1<<32 + 7},
	{-1, 0, 1, 2, lastLong, lastLong + 1, 1<<32 + 1},
	{-1, 0, 1, 2, 3, 4, 5, lastShort, lastShort + 1},
	{-1, 0, 1, 2, 3, 4, 5, 6, lastShort, lastShort + 1},
}

// texts are what a segment's message is tried with: none, some that are orders, and some that are none.
var texts = [][]byte{nil, {}, {1}, {4, 9}, {4}, {10}, make([]byte, 256), make([]byte, 257)}

// segments calls f with many segments of all kinds, to and from the switch 2, of the epoch 7 and the boot 1: those that may be, and all that differ from one of them in two of the numbers at most.
func segments(f func(s api.Seg)) {
	for _, s := range []api.Seg{
		hello(2), hi(2, 1), syn(2, 7, 1), ackTo(2, 7, 2), ackFrom(2, 7, 2), dataTo(2, 7, 1, barrier(1)), dataFrom(2, 7, 1, done(1)),
	} {
		for _, b := range slices.Concat(texts, [][]byte{s.B}) {
			s.B = b
			for i := range values {
				for j := range i + 1 {
					changed(s, i, j, f)
				}
			}
		}
	}
}

// changed calls f with a segment of which the fields i and j have each of the values that they are tried with.
func changed(s api.Seg, i, j int, f func(s api.Seg)) {
	for _, x := range values[i] {
		for _, y := range values[j] {
			other := s
			*fields(&other)[i] = x
			*fields(&other)[j] = y
			f(other)
		}
	}
}

// lineStates are how a line may come to be: what is done with a new one to the switch 2.
var lineStates = map[string][]func(x *line){
	"new":    {},
	"asks":   {beginsLine},
	"offers": {beginsLine, hears(hi(2, 1))},
	"has offered, with orders": {
		beginsLine, sends(6), ticksTo(4), hears(hi(2, 1)), ticksTo(20),
	},
	"is open":           {beginsLine, hears(hi(2, 1)), hears(ackFrom(2, 7, 0))},
	"is open, has said": {beginsLine, hears(hi(2, 1)), hears(ackFrom(2, 7, 0)), sends(6), ticksTo(6)},
	"was heard, and has heard": {
		beginsLine, hears(hi(2, 1)), hears(ackFrom(2, 7, 0)), sends(3), ticksTo(1), hears(ackFrom(2, 7, 1)),
		hears(dataFrom(2, 7, 0, done(1))), hears(dataFrom(2, 7, 2, done(2))), ticksTo(3),
	},
	"has failed":       {beginsLine, ticksTo(200)},
	"has failed, open": {beginsLine, hears(hi(2, 1)), hears(ackFrom(2, 7, 0)), sends(3), ticksTo(200)},
}

// beginsLine lets a line begin the epoch 7.
func beginsLine(x *line) { x.begin(7, 0) }

// sends hands it so many orders.
func sends(n int) func(x *line) {
	return func(x *line) {
		for i := range n {
			x.send(barrier(i))
		}
	}
}

// ticksTo lets it tick till there.
func ticksTo(last int) func(x *line) {
	return func(x *line) {
		for now := range last + 1 {
			x.tick(now)
		}
	}
}

// hears lets it take a segment.
func hears(s api.Seg) func(x *line) {
	return func(x *line) { x.take(s, 1) }
}

// P17.3: in each state a line does with whatever comes what the document says, and is then what the document says.
func TestLineStates(t *testing.T) {
	went := map[int]int{}
	for name, state := range lineStates {
		made := func() *line {
			x := newLine(t, 2)
			for _, do := range state {
				do(x)
			}
			return x
		}
		x := made()
		segments(func(s api.Seg) {
			was := x.p.plain
			x.take(s, 201)
			if x.p.plain != was {
				went[s.Kind]++
				x.goesOn(201)
				x = made()
			}
			if t.Failed() {
				t.Fatalf("%s: %+v", name, s)
			}
		})
		x.goesOn(201)
		if t.Failed() {
			t.Fatalf("%s: what changes nothing has changed something", name)
		}
	}
	if went[2] == 0 || went[4] == 0 || went[5] == 0 || len(went) != 3 {
		t.Errorf("by their kinds so many segments changed something: %v", went)
	}
}

// portStates are how a port of the switch 2, of the boot 1, may come to be.
var portStates = map[string][]func(x *port){
	"new":       {},
	"begins":    {comes(syn(2, 7, 1))},
	"has said":  {comes(syn(2, 7, 1)), sendsToo(6), ticksTooTo(6)},
	"has heard": {comes(syn(2, 6, 1)), comes(syn(2, 7, 1)), comes(dataTo(2, 7, 0, barrier(1))), comes(dataTo(2, 7, 2, barrier(2)))},
	"was heard, and has heard": {
		comes(syn(2, 7, 1)), sendsToo(3), ticksTooTo(1), comes(ackTo(2, 7, 1)),
		comes(dataTo(2, 7, 0, barrier(1))), comes(dataTo(2, 7, 2, barrier(2))), ticksTooTo(3),
	},
	"has said in vain": {comes(syn(2, 7, 1)), sendsToo(3), ticksTooTo(200)},
}

// sendsToo, ticksTooTo and comes are a port's.
func sendsToo(n int) func(x *port) {
	return func(x *port) {
		for i := range n {
			x.send(done(i))
		}
	}
}

func ticksTooTo(last int) func(x *port) {
	return func(x *port) {
		for now := range last + 1 {
			x.tick(now)
		}
	}
}

func comes(s api.Seg) func(x *port) {
	return func(x *port) { x.take(s, 1) }
}

// P17.5: in each state a port does with whatever comes what the document says, and is then what the document says.
func TestPortStates(t *testing.T) {
	went := map[int]int{}
	for name, state := range portStates {
		made := func() *port {
			x := newPort(t, 2, 1)
			for _, do := range state {
				do(x)
			}
			return x
		}
		x := made()
		segments(func(s api.Seg) {
			was := x.p.plain
			x.take(s, 201)
			if x.p.plain != was {
				went[s.Kind]++
				x.goesOn(201)
				x = made()
			}
			if t.Failed() {
				t.Fatalf("%s: %+v", name, s)
			}
		})
		x.goesOn(201)
		if t.Failed() {
			t.Fatalf("%s: what changes nothing has changed something", name)
		}
	}
	if went[3] == 0 || went[4] == 0 || went[5] == 0 || len(went) != 3 {
		t.Errorf("by their kinds so many segments changed something: %v", went)
	}
}
