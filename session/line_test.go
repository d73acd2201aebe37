package session_test

import (
	"testing"

	"catenary/api"
	"catenary/session"
)

// P17.1, P17.6: a line is to a switch, and has begun nothing; no session goes on till it has.
func TestNewLine(t *testing.T) {
	for to := 1; to <= 6; to++ {
		x := newLine(t, to)
		if x.l.Open() || x.l.Failed() || x.l.Left() != 0 || x.l.Epoch() != 0 || x.l.Boot() != 0 {
			t.Errorf("to %d: it is not new", to)
		}
		for _, s := range []api.Seg{hi(to, 3), ackFrom(to, 1, 0), dataFrom(to, 1, 0, done(1)), {}, {From: to}} {
			x.tells(s, 5)
		}
		for _, now := range ticks {
			x.says(now)
		}
		if e := x.send(barrier(1)); e != api.ErrState {
			t.Errorf("send: error %d", e)
		}
	}
	for _, to := range noSwitches {
		if l, e := session.NewLine(to); l != nil || e != api.ErrArg {
			t.Errorf("to %d: a line %t, error %d", to, l != nil, e)
		}
	}
}

// P17.1: an epoch begins, if it is above the line's own one; an error changes nothing.
func TestBegin(t *testing.T) {
	for _, epoch := range longs {
		x := newLine(t, 3)
		for _, now := range noTicks {
			for _, any := range []int{epoch, 0, -1, lastLong + 1} {
				if e := x.begin(any, now); e != api.ErrArg {
					t.Errorf("begin %d at %d: error %d", any, now, e)
				}
			}
		}
		for _, no := range append(noLongs, 0) {
			if e := x.begin(no, 0); e != api.ErrEpoch {
				t.Errorf("begin %d: error %d", no, e)
			}
		}
		if e := x.begin(epoch, 5); e != api.OK || x.l.Epoch() != epoch {
			t.Fatalf("begin %d: error %d, epoch %d", epoch, e, x.l.Epoch())
		}
		for _, other := range longs {
			if other <= epoch && x.begin(other, 6) != api.ErrEpoch {
				t.Errorf("begin %d behind %d", other, epoch)
			}
		}
		x.begin(lastLong+1, 6)
		x.begin(epoch-1, 6)
		x.says(8)
		x.says(9, hello(3))
	}
}

// P17.1: each tick may be that of the beginning; the first wait is from it on.
func TestBeginAtEachTick(t *testing.T) {
	for _, now := range ticks {
		x := newLine(t, 1)
		if e := x.begin(1, now); e != api.OK {
			t.Errorf("begin at %d: error %d", now, e)
		}
		for i := range 4 {
			x.says(now + i)
		}
		if now+4 <= lastTick {
			x.says(now+4, hello(1))
		} else {
			x.says(now + 4)
		}
	}
}

// P17.1, P17.6: what begins has all anew: a call that knows nothing, no order, no ack that is owed, no number, and has not failed.
func TestBeginsAnew(t *testing.T) {
	for _, fails := range []bool{false, true} {
		x := opened(t)
		for n := range 6 {
			x.send(barrier(n))
		}
		x.tick(1)
		x.tells(ackFrom(2, 7, 2), 2)
		x.tells(dataFrom(2, 7, 0, done(5)), 2, done(5))
		x.tells(dataFrom(2, 7, 2, done(6)), 2)
		if x.l.Left() != 4 || x.l.Boot() != 1 {
			t.Fatal("it is not what it is to be ahead")
		}
		for now := 3; fails && !x.l.Failed() && now < 1000; now++ {
			x.tick(now)
		}
		if x.l.Failed() != fails {
			t.Fatalf("failed %t", x.l.Failed())
		}
		x.begin(8, 2000)
		if x.l.Failed() || x.l.Open() || x.l.Left() != 0 || x.l.Boot() != 0 || x.l.Epoch() != 8 {
			t.Error("something is left")
		}
		x.send(barrier(9))
		x.says(2003)
		x.says(2004, hello(2))
		x.tells(hi(2, 4), 2004)
		x.tells(ackFrom(2, 7, 0), 2004)
		x.tells(ackFrom(2, 8, 0), 2004)
		x.says(2004, dataTo(2, 8, 0, barrier(9)))
		x.tells(dataFrom(2, 8, 0, done(7)), 2005, done(7))
		x.tells(dataFrom(2, 8, 1, done(8)), 2005, done(8))
		x.says(2005, ackTo(2, 8, 2))
	}
}

// P17.3: what the call of the last epoch was to say soon is forgotten with it.
func TestBeginIsNotSoon(t *testing.T) {
	x := begun(t)
	x.tells(hi(2, 1), 1)
	x.begin(8, 1)
	x.says(1)
	x.says(5, hello(2))
}

// P17.1: a line takes orders from its beginning on, till it has failed; an order that may not be is refused, and changes nothing.
func TestLineSend(t *testing.T) {
	x := newLine(t, 2)
	for _, o := range append(noOrders, barrier(1)) {
		if e := x.send(o); e != api.ErrState {
			t.Errorf("without a call, %+v: error %d", o, e)
		}
	}
	x.begin(7, 0)
	for _, o := range noOrders {
		if e := x.send(o); e != api.ErrArg {
			t.Errorf("%+v: error %d", o, e)
		}
	}
	if x.l.Left() != 0 {
		t.Errorf("left %d", x.l.Left())
	}
	all := []api.Order{barrier(1), add(9), done(2), {Kind: api.OrdWipe}}
	for i, o := range all {
		if e := x.send(o); e != api.OK || x.l.Left() != i+1 {
			t.Errorf("%+v: error %d, left %d", o, e, x.l.Left())
		}
	}
	x.take(hi(2, 1), 1)
	x.says(1, syn(2, 7, 1))
	x.take(ackFrom(2, 7, 0), 2)
	var want []api.Seg
	for i, o := range all {
		want = append(want, dataTo(2, 7, i, o))
	}
	x.says(2, want...)
	for now := 3; !x.l.Failed() && now < 1000; now++ {
		x.tick(now)
	}
	for _, o := range append(noOrders, barrier(1)) {
		if e := x.send(o); e != api.ErrState || x.l.Left() != 4 {
			t.Errorf("failed, %+v: error %d, left %d", o, e, x.l.Left())
		}
	}
}

// P17.1: the sender's limits are the line's: 512 orders that wait, and 20000 of an epoch.
func TestLineIsFull(t *testing.T) {
	x := opened(t)
	for n := range 512 {
		if e := x.send(barrier(n)); e != api.OK {
			t.Fatalf("order %d: error %d", n, e)
		}
	}
	if e := x.send(barrier(512)); e != api.ErrFull || x.l.Left() != 512 {
		t.Errorf("error %d, left %d", e, x.l.Left())
	}
	if e := x.send(api.Order{}); e != api.ErrArg {
		t.Errorf("no order: error %d", e)
	}
	now, sent := 1, 512
	for sent < 20000 {
		x.tick(now)
		x.tells(ackFrom(2, 7, x.p.body.said), now)
		for range 4 {
			if e := x.send(barrier(sent)); e != api.OK {
				t.Fatalf("order %d: error %d", sent, e)
			}
			sent++
		}
		now++
	}
	x.tick(now)
	x.tells(ackFrom(2, 7, x.p.body.said), now)
	if e := x.send(barrier(0)); e != api.ErrLimit || x.l.Left() != 508 {
		t.Errorf("error %d, left %d", e, x.l.Left())
	}
	x.begin(8, now)
	if e := x.send(barrier(0)); e != api.OK {
		t.Errorf("of the next epoch: error %d", e)
	}
}

// P17.2: a call that asks says so at 4, and each time later, at 8 times; then the line has failed, though its last words are said still.
func TestAsksInVain(t *testing.T) {
	x := begun(t)
	due := map[int]int{4: 1, 12: 2, 28: 3, 60: 4, 92: 5, 124: 6, 156: 7, 188: 8}
	for now := range 400 {
		switch times := due[now]; {
		case times == 0:
			x.says(now)
		default:
			x.says(now, hello(2))
			if x.l.Failed() != (times == 8) {
				t.Errorf("failed %t behind %d times", x.l.Failed(), times)
			}
		}
	}
	for _, s := range []api.Seg{hi(2, 1), ackFrom(2, 7, 0), dataFrom(2, 7, 0, done(1))} {
		x.tells(s, 401)
		x.says(402)
	}
	if !x.l.Failed() || x.l.Open() || x.l.Epoch() != 7 || x.l.Boot() != 0 {
		t.Errorf("failed %t, open %t, epoch %d, boot %d", x.l.Failed(), x.l.Open(), x.l.Epoch(), x.l.Boot())
	}
}

// P17.3: a call that goes on says what it has to say at the next tick, whichever that is; that is no try.
func TestOffersSoon(t *testing.T) {
	for _, next := range []int{10, 11, 13, 14, 15, 500, 0, 9, lastTick} {
		x := begun(t)
		x.says(4, hello(2))
		x.tells(hi(2, 5), 10)
		if x.l.Boot() != 5 || x.l.Open() {
			t.Errorf("boot %d, open %t", x.l.Boot(), x.l.Open())
		}
		for _, no := range noTicks {
			x.says(no)
		}
		x.says(next, syn(2, 7, 5))
		if next < 14 {
			x.says(next)
			x.says(13)
		}
		x.says(max(next, 14), syn(2, 7, 5))
		x.says(max(next, 14))
	}
}

// P17.2, P17.3: what was tried ahead of a call's going on counts no more, and what is said at once does not count.
func TestOffersInVain(t *testing.T) {
	x := begun(t)
	for now := range 188 {
		x.tick(now)
	}
	x.tells(hi(2, 5), 187)
	x.says(187, syn(2, 7, 5))
	due := map[int]int{4: 1, 12: 2, 28: 3, 60: 4, 92: 5, 124: 6, 156: 7, 188: 8}
	for now := 188; now < 600; now++ {
		switch times := due[now-187]; {
		case times == 0:
			x.says(now)
		default:
			x.says(now, syn(2, 7, 5))
			if x.l.Failed() != (times == 8) {
				t.Errorf("failed %t behind %d times", x.l.Failed(), times)
			}
		}
	}
	if !x.l.Failed() || x.l.Boot() != 5 {
		t.Errorf("failed %t, boot %d", x.l.Failed(), x.l.Boot())
	}
}

// P17.3: a SegHi that is doubled, or of another boot, starts nothing anew.
func TestHiTwice(t *testing.T) {
	x := begun(t)
	x.tells(hi(2, 5), 1)
	x.says(1, syn(2, 7, 5))
	x.tells(hi(2, 5), 3)
	x.tells(hi(2, 6), 4)
	x.says(4)
	x.says(5, syn(2, 7, 5))
	if x.l.Boot() != 5 {
		t.Errorf("boot %d", x.l.Boot())
	}
}

// P17.3, P17.6: an ack opens a line, whatever it tells, and is not heard; the beat stands then, and nothing is to be said soon.
func TestOpens(t *testing.T) {
	for _, n := range []int{0, 1, 5, lastShort} {
		for _, saysSyn := range []bool{false, true} {
			x := begun(t)
			x.send(barrier(1))
			x.tells(hi(2, 5), 1)
			if saysSyn {
				x.says(1, syn(2, 7, 5))
			}
			x.tells(ackFrom(2, 7, n), 2)
			if !x.l.Open() || x.l.Failed() || x.l.Boot() != 5 || x.l.Left() != 1 {
				t.Errorf("open %t, boot %d, left %d", x.l.Open(), x.l.Boot(), x.l.Left())
			}
			x.says(3, dataTo(2, 7, 0, barrier(1)))
			x.says(4)
			x.says(6)
			x.says(7, dataTo(2, 7, 0, barrier(1)))
		}
	}
	x := opened(t)
	for now := range 1000 {
		x.says(now)
	}
	if !x.l.Open() {
		t.Error("it has failed, though it said nothing")
	}
}

// P17.3: what a line hears ahead of its being open is nothing: it tells none of it, and owes nothing.
func TestHearsNotAhead(t *testing.T) {
	x := begun(t)
	x.tells(dataFrom(2, 7, 0, done(1)), 0)
	x.tells(ackFrom(2, 7, 0), 0)
	if x.l.Open() {
		t.Error("an ack opens what asks")
	}
	x.tells(hi(2, 5), 0)
	x.tells(dataFrom(2, 7, 0, done(2)), 0)
	x.tells(ackFrom(2, 7, 0), 0)
	x.says(1)
	x.tells(dataFrom(2, 7, 0, done(3)), 1, done(3))
	x.says(2, ackTo(2, 7, 1))
}

// P17.2: an ack first, then what is fresh, then, unless the beat was started by that, what is said again, if it is due: what is fresh among it.
func TestLineSays(t *testing.T) {
	x := opened(t)
	x.tells(dataFrom(2, 7, 0, done(1)), 1, done(1))
	for n := range 6 {
		x.send(barrier(n))
	}
	m := func(n int) api.Seg { return dataTo(2, 7, n, barrier(n)) }
	x.says(10, ackTo(2, 7, 1), m(0), m(1), m(2), m(3))
	x.says(11)
	x.says(13)
	x.says(14, m(0), m(1), m(2), m(3))
	x.says(14)
	x.says(21)
	x.tells(dataFrom(2, 7, 5, done(9)), 22)
	x.says(22, ackTo(2, 7, 1), m(0), m(1), m(2), m(3))
	x.tells(ackFrom(2, 7, 1), 23)
	x.says(26, m(4))
	x.tells(ackFrom(2, 7, 2), 26)
	x.says(30, m(5), m(2), m(3), m(4), m(5))
	x.says(31)
	x.tells(ackFrom(2, 7, 6), 31)
	for now := 32; now < 300; now++ {
		x.says(now)
	}
	if x.l.Left() != 0 || !x.l.Open() {
		t.Errorf("left %d, open %t", x.l.Left(), x.l.Open())
	}
}

// P17.2: what is fresh while the beat runs does not start it anew.
func TestFreshStartsNothingThatRuns(t *testing.T) {
	x := opened(t)
	m := func(n int) api.Seg { return dataTo(2, 7, n, barrier(n)) }
	x.send(barrier(0))
	x.says(1, m(0))
	x.send(barrier(1))
	x.says(3, m(1))
	x.says(4)
	x.says(5, m(0), m(1))
}

// P17.2: a line that says something in vain at 8 times has failed; what was said is answered still, and nothing behind it.
func TestSaysInVain(t *testing.T) {
	x := opened(t)
	x.send(barrier(0))
	m := dataTo(2, 7, 0, barrier(0))
	x.says(100, m)
	due := map[int]int{4: 1, 12: 2, 28: 3, 60: 4, 92: 5, 124: 6, 156: 7, 188: 8}
	for now := 101; now < 287; now++ {
		if times := due[now-100]; times > 0 {
			x.says(now, m)
		} else {
			x.says(now)
		}
		if x.l.Failed() {
			t.Fatalf("failed at %d", now)
		}
	}
	x.tells(dataFrom(2, 7, 0, done(3)), 287, done(3))
	x.says(288, ackTo(2, 7, 1), m)
	if !x.l.Failed() || x.l.Open() || x.l.Left() != 1 || x.l.Epoch() != 7 || x.l.Boot() != 1 {
		t.Errorf("failed %t, open %t, left %d, epoch %d, boot %d", x.l.Failed(), x.l.Open(), x.l.Left(), x.l.Epoch(), x.l.Boot())
	}
	x.tells(dataFrom(2, 7, 1, done(4)), 289)
	x.tells(ackFrom(2, 7, 1), 289)
	x.says(300)
	if x.l.Left() != 1 {
		t.Errorf("left %d", x.l.Left())
	}
}

// P17.2: a message that is heard starts the tries anew; an ack that tells nothing new does not.
func TestHeardIsNotInVain(t *testing.T) {
	for _, n := range []int{0, 1, 2, 3, lastShort} {
		x := opened(t)
		x.send(barrier(0))
		x.send(barrier(1))
		x.tick(0)
		for now := 1; now < 188; now++ {
			x.tick(now)
		}
		x.tells(ackFrom(2, 7, n), 187)
		x.tick(188)
		news := n == 1 || n == 2
		if x.l.Failed() == news {
			t.Errorf("ack %d: failed %t", n, x.l.Failed())
		}
		switch n {
		case 1:
			x.says(190)
			x.says(191, dataTo(2, 7, 1, barrier(1)))
		case 2:
			x.says(191)
			x.says(1000)
		}
	}
}

// P17.3: each message is told in its place, once, and an ack is owed for each that comes, also for one that is far off, or no order's.
func TestLineHears(t *testing.T) {
	x := opened(t)
	x.tells(dataFrom(2, 7, 1, done(1)), 1)
	x.says(1, ackTo(2, 7, 0))
	x.says(1)
	x.tells(dataFrom(2, 7, 4, done(4)), 2)
	x.says(2, ackTo(2, 7, 0))
	x.tells(dataFrom(2, 7, lastShort, done(5)), 3)
	x.says(3, ackTo(2, 7, 0))
	x.tells(dataFrom(2, 7, 3, add(3)), 4)
	x.tells(dataFrom(2, 7, 1, done(6)), 4)
	x.says(4, ackTo(2, 7, 0))
	x.tells(dataFrom(2, 7, 0, done(0)), 5, done(0), done(1))
	x.tells(dataFrom(2, 7, 0, done(0)), 6)
	x.says(6, ackTo(2, 7, 2))
	x.tells(dataFrom(2, 7, 2, done(2)), 7, done(2), add(3))
	x.says(8, ackTo(2, 7, 4))
	x.says(9)
}

// P17.3: bytes that are no order's have their place in the row, and are not told.
func TestNoOrderIsNotTold(t *testing.T) {
	no := func(seq int, b ...byte) api.Seg {
		return api.Seg{Kind: 5, From: 2, Hops: 3, Epoch: 7, Seq: seq, B: b}
	}
	x := opened(t)
	x.tells(no(0, 10), 1)
	x.says(1, ackTo(2, 7, 1))
	x.tells(no(2, 6, 0), 2)
	x.tells(dataFrom(2, 7, 2, done(7)), 2)
	x.tells(dataFrom(2, 7, 3, done(3)), 2)
	x.tells(no(1, 1, 0), 2, done(3))
	x.says(2, ackTo(2, 7, 4))
	x.tells(no(4, make([]byte, 256)...), 3)
	x.tells(dataFrom(2, 7, 5, done(5)), 3, done(5))
}

// P17.3: the numbers of messages go round.
func TestLineHearsRound(t *testing.T) {
	x := opened(t)
	for n := range 1<<16 + 10 {
		seq := n % (1 << 16)
		if n%4096 == 0 {
			x.tells(dataFrom(2, 7, (seq+2)%(1<<16), done(n+2)), 1)
			x.tells(dataFrom(2, 7, (seq+4)%(1<<16), done(n+2)), 1)
		}
		want := []api.Order{done(n)}
		switch n % 4096 {
		case 1:
			want = append(want, done(n+1))
		case 2:
			want = nil
		}
		x.tells(dataFrom(2, 7, seq, done(n)), 1, want...)
		if n%4096 == 3 {
			x.says(1, ackTo(2, 7, seq+1))
		}
	}
}

// P17.3: a line hears nothing of another switch, of another epoch, or that may not be; what has no tick does nothing.
func TestLineOfOthers(t *testing.T) {
	x := opened(t)
	x.send(barrier(0))
	x.tick(1)
	for _, n := range noTicks {
		x.tells(dataFrom(2, 7, 0, done(1)), n)
		x.tells(ackFrom(2, 7, 1), n)
		x.says(n)
	}
	for from := range 7 {
		for _, epoch := range []int{0, 1, 6, 7, 8, lastLong} {
			if from != 2 || epoch != 7 {
				x.tells(dataFrom(from, epoch, 0, done(1)), 2)
				x.tells(ackFrom(from, epoch, 1), 2)
			}
			x.tells(dataTo(from, epoch, 0, done(1)), 2)
			x.tells(ackTo(from, epoch, 1), 2)
		}
	}
	for _, s := range []api.Seg{
		{Kind: 4, From: 2, Hops: 13, Epoch: 7, Ack: 1}, {Kind: 4, From: 2, To: 1, Epoch: 7, Ack: 1}, {Kind: 4, From: 2, Epoch: 7, Ack: 1, Boot: 1},
		{Kind: 4, From: 2, Epoch: 7, Ack: 1, Seq: 1}, {Kind: 4, From: 2, Epoch: 7, Ack: 1, B: []byte{1}}, {Kind: 4, From: 2, Hops: -1, Epoch: 7, Ack: 1},
		{Kind: 5, From: 2, Epoch: 7}, {Kind: 5, From: 2, Epoch: 7, Seq: -1 << 16, B: []byte{1}}, {Kind: 5, From: 2, Epoch: 7, B: make([]byte, 257)},
		{Kind: 5, From: 2, Epoch: 7, B: []byte{1}, Ack: 1}, {Kind: 6, From: 2, Epoch: 7}, {Kind: 3, From: 2, Epoch: 7}, {Kind: 2, From: 2, Epoch: 7},
	} {
		x.tells(s, 2)
	}
	if x.l.Left() != 1 {
		t.Errorf("left %d", x.l.Left())
	}
	x.says(2)
	x.tells(ackFrom(2, 7, 1), 2)
	x.tells(dataFrom(2, 7, 0, done(1)), 2, done(1))
	if x.l.Left() != 0 {
		t.Errorf("left %d", x.l.Left())
	}
}

// P17.1 to P17.3: two lines have nothing in common.
func TestLinesAreTheirOwn(t *testing.T) {
	a, b := opened(t), opened(t)
	a.send(barrier(1))
	a.tells(dataFrom(2, 7, 0, done(1)), 0, done(1))
	a.tells(dataFrom(2, 7, 2, done(1)), 0)
	b.like()
	b.says(4)
	b.tells(dataFrom(2, 7, 1, done(2)), 4)
	a.says(5, ackTo(2, 7, 1), dataTo(2, 7, 0, barrier(1)))
	b.says(5, ackTo(2, 7, 0))
}

// Of a line that is none: ErrNil, nothing, 0, false.
func TestNoLine(t *testing.T) {
	var none *session.Line
	for _, l := range []*session.Line{none, {}, new(session.Line)} {
		for _, now := range append(ticks, noTicks...) {
			if e := l.Begin(7, now); e != api.ErrNil {
				t.Errorf("begin: error %d", e)
			}
			if e := l.Begin(0, now); e != api.ErrNil {
				t.Errorf("begin: error %d", e)
			}
			if said := l.Tick(now); len(said) != 0 {
				t.Errorf("says %+v", said)
			}
			for _, s := range []api.Seg{{}, hi(2, 1), ackFrom(2, 7, 0), dataFrom(2, 7, 0, done(1)), ackTo(2, 7, 0), {Kind: 4, Epoch: 1}, {Kind: -1, To: -1}} {
				if told := l.Take(s, now); len(told) != 0 {
					t.Errorf("%+v: tells %+v", s, told)
				}
			}
		}
		for _, o := range append(noOrders, barrier(1)) {
			if e := l.Send(o); e != api.ErrNil {
				t.Errorf("send: error %d", e)
			}
		}
		if l.Open() || l.Failed() || l.Left() != 0 || l.Epoch() != 0 || l.Boot() != 0 {
			t.Error("it has something")
		}
	}
}
