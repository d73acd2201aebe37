package session_test

import (
	"testing"

	"catenary/api"
	"catenary/session"
)

// P17.4: a port is a switch's, with a boot, and has no session.
func TestNewPort(t *testing.T) {
	for self := 1; self <= 6; self++ {
		for _, boot := range append(longs, 0) {
			x := newPort(t, self, boot)
			if x.r.Epoch() != 0 || x.r.Left() != 0 {
				t.Errorf("epoch %d, left %d", x.r.Epoch(), x.r.Left())
			}
			for _, now := range ticks {
				x.says(now)
			}
			for _, o := range append(noOrders, barrier(1)) {
				if e := x.send(o); e != api.ErrState {
					t.Errorf("send: error %d", e)
				}
			}
			x.tells(dataTo(self, 1, 0, barrier(1)), 0)
			x.tells(ackTo(self, 1, 0), 0)
			x.answers(hello(self), 0, false, hi(self, boot))
		}
		for _, boot := range noLongs {
			if r, e := session.NewPort(self, boot); r != nil || e != api.ErrArg {
				t.Errorf("self %d, boot %d: a port %t, error %d", self, boot, r != nil, e)
			}
		}
	}
	for _, self := range noSwitches {
		for _, boot := range []int{-1, 0, 1, lastLong, lastLong + 1} {
			if r, e := session.NewPort(self, boot); r != nil || e != api.ErrArg {
				t.Errorf("self %d, boot %d: a port %t, error %d", self, boot, r != nil, e)
			}
		}
	}
}

// P17.5, P17.6: a session begins with the port's boot, and an epoch above its own, and is answered; so is its own epoch anew.
func TestPortBegins(t *testing.T) {
	for _, boot := range []int{0, 1, 3, lastLong} {
		for _, epoch := range longs {
			x := newPort(t, 4, boot)
			x.tells(syn(4, epoch, (boot+1)%(lastLong+1)), 0)
			x.answers(syn(4, epoch, boot), 0, true, ackFrom(4, epoch, 0))
			if x.r.Epoch() != epoch {
				t.Errorf("epoch %d; asked for %d", x.r.Epoch(), epoch)
			}
			for _, other := range longs {
				if other < epoch {
					x.tells(syn(4, other, boot), 1)
				}
			}
			x.answers(syn(4, epoch, boot), 1, false, ackFrom(4, epoch, 0))
			x.answers(hello(4), 1, false, hi(4, boot))
			for now := range 100 {
				x.says(now)
			}
		}
	}
}

// P17.5: what begins has all anew: no order, no ack that is owed, no number; a doubled beginning has nothing anew, and tells what was heard.
func TestPortBeginsAnew(t *testing.T) {
	x := bound(t)
	for n := range 6 {
		x.send(done(n))
	}
	x.tick(1)
	x.tells(ackTo(2, 7, 1), 2)
	x.tells(dataTo(2, 7, 0, barrier(5)), 2, barrier(5))
	x.tells(dataTo(2, 7, 2, barrier(6)), 2)
	x.answers(syn(2, 7, 1), 3, false, ackFrom(2, 7, 1))
	if x.r.Left() != 5 {
		t.Errorf("left %d", x.r.Left())
	}
	x.says(3, ackFrom(2, 7, 1), dataFrom(2, 7, 4, done(4)))
	x.tells(dataTo(2, 7, 1, barrier(7)), 3, barrier(7), barrier(6))
	x.answers(syn(2, 7, 1), 4, false, ackFrom(2, 7, 3))
	x.answers(syn(2, 9, 1), 5, true, ackFrom(2, 9, 0))
	if x.r.Left() != 0 || x.r.Epoch() != 9 {
		t.Errorf("left %d, epoch %d", x.r.Left(), x.r.Epoch())
	}
	x.says(6)
	x.says(60)
	x.tells(dataTo(2, 7, 3, barrier(8)), 61)
	x.tells(dataTo(2, 9, 2, barrier(8)), 61)
	x.tells(dataTo(2, 9, 0, barrier(9)), 61, barrier(9))
	x.send(done(8))
	x.says(61, ackFrom(2, 9, 1), dataFrom(2, 9, 0, done(8)))
	x.says(65, dataFrom(2, 9, 0, done(8)))
}

// P17.5: of what a beginning answers nothing is owed, and what was owed ahead is owed still.
func TestAnswerOwesNothing(t *testing.T) {
	x := bound(t)
	x.says(0)
	x.tells(dataTo(2, 7, 0, barrier(1)), 1, barrier(1))
	x.answers(syn(2, 7, 1), 1, false, ackFrom(2, 7, 1))
	x.says(1, ackFrom(2, 7, 1))
	x.says(2)
}

// P17.4: a port in a session takes orders that may be, up to the sender's limits.
func TestPortSend(t *testing.T) {
	x := bound(t)
	for _, o := range noOrders {
		if e := x.send(o); e != api.ErrArg {
			t.Errorf("%+v: error %d", o, e)
		}
	}
	all := []api.Order{done(1), add(9), barrier(2), {Kind: api.OrdPort, N: 3, M: 1}}
	var want []api.Seg
	for i, o := range all {
		if e := x.send(o); e != api.OK || x.r.Left() != i+1 {
			t.Errorf("%+v: error %d, left %d", o, e, x.r.Left())
		}
		want = append(want, dataFrom(2, 7, i, o))
	}
	x.says(2, want...)
	for n := len(all); n < 512; n++ {
		if e := x.send(done(n)); e != api.OK {
			t.Fatalf("order %d: error %d", n, e)
		}
	}
	if e := x.send(done(512)); e != api.ErrFull || x.r.Left() != 512 {
		t.Errorf("error %d, left %d", e, x.r.Left())
	}
	sent := 512
	for now := 3; sent < 20000; now++ {
		x.tells(ackTo(2, 7, x.p.body.said), now)
		for range 4 {
			if e := x.send(done(sent)); e != api.OK {
				t.Fatalf("order %d: error %d", sent, e)
			}
			sent++
		}
		x.tick(now)
	}
	x.tells(ackTo(2, 7, x.p.body.said), 9999)
	if e := x.send(done(0)); e != api.ErrLimit || x.r.Left() != 508 {
		t.Errorf("error %d, left %d", e, x.r.Left())
	}
	x.answers(syn(2, 8, 1), 9999, true, ackFrom(2, 8, 0))
	if e := x.send(done(0)); e != api.OK {
		t.Errorf("of the next epoch: error %d", e)
	}
}

// P17.4: an ack first, then what is fresh, then, unless the beat was started by that, what is said again, if it is due: what is fresh among it.
func TestPortSays(t *testing.T) {
	x := bound(t)
	x.tells(dataTo(2, 7, 0, barrier(1)), 1, barrier(1))
	for n := range 6 {
		x.send(done(n))
	}
	m := func(n int) api.Seg { return dataFrom(2, 7, n, done(n)) }
	x.says(10, ackFrom(2, 7, 1), m(0), m(1), m(2), m(3))
	x.says(13)
	x.says(14, m(0), m(1), m(2), m(3))
	x.says(14)
	x.says(21)
	x.tells(dataTo(2, 7, 5, barrier(9)), 22)
	x.says(22, ackFrom(2, 7, 1), m(0), m(1), m(2), m(3))
	x.tells(ackTo(2, 7, 1), 23)
	x.says(26, m(4))
	x.tells(ackTo(2, 7, 2), 26)
	x.says(30, m(5), m(2), m(3), m(4), m(5))
	x.says(31)
	x.tells(ackTo(2, 7, 6), 31)
	for now := 32; now < 300; now++ {
		x.says(now)
	}
	if x.r.Left() != 0 {
		t.Errorf("left %d", x.r.Left())
	}
}

// P17.4: a port never fails, however often it says something in vain.
func TestPortNeverFails(t *testing.T) {
	x := bound(t)
	x.send(done(1))
	m := dataFrom(2, 7, 0, done(1))
	x.says(0, m)
	for _, now := range []int{4, 12, 28} {
		x.says(now - 1)
		x.says(now, m)
	}
	for now := 60; now < 10000; now += 32 {
		x.says(now - 1)
		x.says(now, m)
	}
	if e := x.send(done(2)); e != api.OK || x.r.Left() != 2 || x.r.Epoch() != 7 {
		t.Errorf("error %d, left %d, epoch %d", e, x.r.Left(), x.r.Epoch())
	}
}

// P17.5: each message is told in its place, once, and an ack is owed for each that comes, also for one that is far off, or no order's.
func TestPortHears(t *testing.T) {
	no := func(seq int, b ...byte) api.Seg {
		return api.Seg{Kind: 5, To: 2, Hops: 0, Epoch: 7, Seq: seq, B: b}
	}
	x := bound(t)
	x.tells(dataTo(2, 7, 1, barrier(1)), 1)
	x.says(1, ackFrom(2, 7, 0))
	x.tells(dataTo(2, 7, 4, barrier(4)), 2)
	x.says(2, ackFrom(2, 7, 0))
	x.tells(dataTo(2, 7, lastShort, barrier(5)), 3)
	x.says(3, ackFrom(2, 7, 0))
	x.tells(dataTo(2, 7, 3, add(3)), 4)
	x.tells(dataTo(2, 7, 1, barrier(6)), 4)
	x.says(4, ackFrom(2, 7, 0))
	x.tells(dataTo(2, 7, 0, barrier(0)), 5, barrier(0), barrier(1))
	x.tells(dataTo(2, 7, 0, barrier(0)), 6)
	x.says(6, ackFrom(2, 7, 2))
	x.tells(no(2, 10), 7, add(3))
	x.tells(no(6, 6, 0), 7)
	x.says(8, ackFrom(2, 7, 4))
	x.tells(no(4, 1, 1), 9)
	x.tells(dataTo(2, 7, 6, barrier(6)), 9)
	x.tells(dataTo(2, 7, 5, barrier(5)), 9, barrier(5))
	x.says(9, ackFrom(2, 7, 7))
	x.says(10)
}

// P17.5: a message that is heard starts the beat anew, if one is left that was said; an ack that tells nothing new does nothing.
func TestPortIsHeard(t *testing.T) {
	for n, left := range map[int]int{0: 2, 1: 1, 2: 0, 3: 2, lastShort: 2} {
		x := bound(t)
		x.send(done(0))
		x.send(done(1))
		x.tick(0)
		x.tells(ackTo(2, 7, n), 3)
		if x.r.Left() != left {
			t.Errorf("ack %d: left %d", n, x.r.Left())
		}
		all := []api.Seg{dataFrom(2, 7, 0, done(0)), dataFrom(2, 7, 1, done(1))}
		switch left {
		case 2:
			x.says(4, all...)
		case 1:
			x.says(4)
			x.says(6)
			x.says(7, all[1])
		case 0:
			x.says(500)
		}
	}
}

// P17.5: a port hears nothing to another switch, of another epoch, or that may not be; what has no tick does nothing, and begins nothing.
func TestPortOfOthers(t *testing.T) {
	x := newPort(t, 2, 1)
	for _, n := range noTicks {
		x.tells(hello(2), n)
		x.tells(syn(2, 7, 1), n)
	}
	x.answers(syn(2, 7, 1), 0, true, ackFrom(2, 7, 0))
	x.send(done(0))
	x.tick(1)
	for _, n := range noTicks {
		x.tells(hello(2), n)
		x.tells(syn(2, 7, 1), n)
		x.tells(syn(2, 8, 1), n)
		x.tells(dataTo(2, 7, 0, barrier(1)), n)
		x.tells(ackTo(2, 7, 1), n)
		x.says(n)
	}
	for to := range 7 {
		for _, epoch := range []int{0, 1, 6, 7, 8, lastLong} {
			if to != 2 || epoch != 7 {
				x.tells(dataTo(to, epoch, 0, barrier(1)), 2)
				x.tells(ackTo(to, epoch, 1), 2)
			}
			if to != 2 {
				x.tells(syn(to, epoch, 1), 2)
				x.tells(hello(to), 2)
			}
			x.tells(dataFrom(to, epoch, 0, barrier(1)), 2)
			x.tells(ackFrom(to, epoch, 1), 2)
		}
	}
	for _, s := range []api.Seg{
		{Kind: 4, To: 2, Hops: 13, Epoch: 7, Ack: 1}, {Kind: 4, To: 2, From: 1, Epoch: 7, Ack: 1}, {Kind: 4, To: 2, Epoch: 7, Ack: 1, Boot: 1},
		{Kind: 4, To: 2, Epoch: 7, Ack: 1, Seq: 1}, {Kind: 4, To: 2, Epoch: 7, Ack: 1, B: []byte{1}}, {Kind: 4, To: 2, Hops: -1, Epoch: 7, Ack: 1},
		{Kind: 5, To: 2, Epoch: 7}, {Kind: 5, To: 2, Epoch: 7, Seq: -1 << 16, B: []byte{1}}, {Kind: 5, To: 2, Epoch: 7, B: make([]byte, 257)},
		{Kind: 5, To: 2, Epoch: 7, B: []byte{1}, Ack: 1}, {Kind: 6, To: 2, Epoch: 7}, {Kind: 2, To: 2, Epoch: 7},
		{Kind: 3, To: 2, Epoch: lastLong + 1, Boot: 1}, {Kind: 3, To: 2, Epoch: 8, Boot: 1, Ack: 1}, {Kind: 3, To: 2, Epoch: 7, Boot: 2},
	} {
		x.tells(s, 2)
	}
	if x.r.Left() != 1 || x.r.Epoch() != 7 {
		t.Errorf("left %d, epoch %d", x.r.Left(), x.r.Epoch())
	}
	x.says(2)
	x.tells(ackTo(2, 7, 1), 2)
	x.tells(dataTo(2, 7, 0, barrier(1)), 2, barrier(1))
	if x.r.Left() != 0 {
		t.Errorf("left %d", x.r.Left())
	}
}

// P17.5: the first and the last tick are some.
func TestPortAtEachTick(t *testing.T) {
	for _, now := range ticks {
		x := newPort(t, 2, 1)
		x.answers(hello(2), now, false, hi(2, 1))
		x.answers(syn(2, 7, 1), now, true, ackFrom(2, 7, 0))
		x.tells(dataTo(2, 7, 0, barrier(1)), now, barrier(1))
		x.send(done(1))
		x.says(now, ackFrom(2, 7, 1), dataFrom(2, 7, 0, done(1)))
		x.tells(ackTo(2, 7, 1), now)
		if x.r.Left() != 0 {
			t.Errorf("at %d: left %d", now, x.r.Left())
		}
	}
}

// P17.4, P17.5: two ports have nothing in common.
func TestPortsAreTheirOwn(t *testing.T) {
	a, b := bound(t), bound(t)
	a.send(done(1))
	a.tells(dataTo(2, 7, 0, barrier(1)), 0, barrier(1))
	a.tells(dataTo(2, 7, 2, barrier(1)), 0)
	b.like()
	b.says(4)
	b.tells(dataTo(2, 7, 1, barrier(2)), 4)
	a.says(5, ackFrom(2, 7, 1), dataFrom(2, 7, 0, done(1)))
	b.says(5, ackFrom(2, 7, 0))
	a.answers(syn(2, 8, 1), 6, true, ackFrom(2, 8, 0))
	b.answers(syn(2, 7, 1), 6, false, ackFrom(2, 7, 0))
}

// Of a port that is none: ErrNil, nothing, 0, false.
func TestNoPort(t *testing.T) {
	var none *session.Port
	for _, r := range []*session.Port{none, {}, new(session.Port)} {
		for _, now := range append(ticks, noTicks...) {
			if said := r.Tick(now); len(said) != 0 {
				t.Errorf("says %+v", said)
			}
			for _, s := range []api.Seg{{}, hello(2), syn(2, 7, 0), syn(1, 1, 0), ackTo(2, 7, 0), dataTo(2, 7, 0, barrier(1)), {Kind: 1}, {Kind: 3, Epoch: 1}, {Kind: 5, B: []byte{1}}} {
				if told, answer, begins := r.Take(s, now); len(told) != 0 || len(answer) != 0 || begins {
					t.Errorf("%+v: tells %+v, answers %+v, begins %t", s, told, answer, begins)
				}
			}
		}
		for _, o := range append(noOrders, barrier(1)) {
			if e := r.Send(o); e != api.ErrNil {
				t.Errorf("send: error %d", e)
			}
		}
		if r.Left() != 0 || r.Epoch() != 0 {
			t.Error("it has something")
		}
	}
}
