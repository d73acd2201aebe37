package session_test

import (
	"bytes"
	"math"
	"testing"

	"catenary/api"
	"catenary/order"
	"catenary/seg"
	"catenary/session"
)

// lastLong is the last number of four bytes, lastShort the last one of two, lastTick the last tick.
const (
	lastLong  = 1<<32 - 1
	lastShort = 1<<16 - 1
	lastTick  = 1<<53 - 1
)

// noSwitches are numbers that are no switches: below 1, above 6, and such as are one but for a multiple of 2^8, 2^16 or 2^32.
var noSwitches = []int{
	math.MinInt, math.MinInt + 3, -1<<32 + 2, -1 << 32, -65535, -256, -255, -6, -2, -1, 0,
	7, 8, 255, 256, 257, 65536 + 2, 1 << 31, 1 << 32, 1<<32 + 1, 1<<32 + 6, 1<<53 - 1, math.MaxInt,
}

// noLongs are numbers that have not four bytes: below 0, and above the last one.
var noLongs = []int{
	math.MinInt, math.MinInt + 5, -1 << 53, -1 << 32, -1<<32 + 1, -1 << 31, -65536, -256, -2, -1,
	lastLong + 1, lastLong + 2, lastLong + 6, 1 << 33, 1<<53 - 1, 1 << 62, math.MaxInt - 1, math.MaxInt,
}

// longs are epochs, at which something may turn; with 0 they are boots.
var longs = []int{1, 2, 3, 6, 7, 255, 256, 65535, 65536, 1<<31 - 1, 1 << 31, 1<<31 + 1, lastLong - 1, lastLong}

// ticks are some, the first and the last one among them; noTicks are none.
var (
	ticks   = []int{0, 1, 4, 100, 1<<31 - 1, 1 << 31, 1<<32 - 1, 1 << 32, lastTick - 4, lastTick - 1, lastTick}
	noTicks = []int{math.MinInt, math.MinInt + 1, -lastTick, -1 << 32, -4, -1, lastTick + 1, lastTick + 5, 1 << 60, math.MaxInt}
)

// The segments by which a session begins.
func hello(to int) api.Seg      { return api.Seg{Kind: 1, To: to, Hops: 12} }
func hi(from, boot int) api.Seg { return api.Seg{Kind: 2, From: from, Hops: 12, Boot: boot} }
func syn(to, epoch, boot int) api.Seg {
	return api.Seg{Kind: 3, To: to, Hops: 12, Epoch: epoch, Boot: boot}
}

// The segments in which it goes on, to a switch or from it.
func ackTo(to, epoch, n int) api.Seg {
	return api.Seg{Kind: 4, To: to, Hops: 12, Epoch: epoch, Ack: n}
}
func ackFrom(from, epoch, n int) api.Seg {
	return api.Seg{Kind: 4, From: from, Hops: 12, Epoch: epoch, Ack: n}
}
func dataTo(to, epoch, seq int, o api.Order) api.Seg {
	b, _ := order.Bytes(o)
	return api.Seg{Kind: 5, To: to, Hops: 12, Epoch: epoch, Seq: seq, B: b}
}
func dataFrom(from, epoch, seq int, o api.Order) api.Seg {
	s := dataTo(0, epoch, seq, o)
	s.From = from
	return s
}

// barrier is an order with a number, done one that answers it.
func barrier(n int) api.Order { return api.Order{Kind: api.OrdBarrier, N: n} }
func done(n int) api.Order    { return api.Order{Kind: api.OrdDone, N: n} }

// add is an order that has a list.
func add(prio int) api.Order {
	outs := []api.Out{{Port: 2, Set: [3]int{-1, 4, 255}}, {Port: 0, Set: [3]int{7, -1, -1}}}
	return api.Order{Kind: api.OrdAdd, Rule: api.Rule{Kind: api.RuleData, Prio: prio, Match: api.Mask{Port: -1}, Outs: outs}}
}

// noOrders are orders that may not be.
var noOrders = []api.Order{
	{}, {Kind: -1}, {Kind: 10}, {Kind: api.OrdWipe, N: 1}, {Kind: api.OrdTag, N: 201}, {Kind: api.OrdBarrier, N: lastLong + 1},
	{Kind: api.OrdAdd}, {Kind: api.OrdPort, N: 5}, {Kind: api.OrdProbe, N: 0}, {Kind: api.OrdLink, P: api.Probe{From: 1, FromPort: 1}},
}

// sameOrders tells whether two lists have the same orders.
func sameOrders(a, b []api.Order) bool {
	if len(a) != len(b) {
		return false
	}
	for i := range a {
		x, e := order.Bytes(a[i])
		y, f := order.Bytes(b[i])
		if e != api.OK || f != api.OK || !bytes.Equal(x, y) {
			return false
		}
	}
	return true
}

// sameSegs tells whether two lists have the same segments.
func sameSegs(a, b []api.Seg) bool {
	if len(a) != len(b) {
		return false
	}
	for i := range a {
		if !seg.Same(a[i], b[i]) {
			return false
		}
	}
	return true
}

// line is a line with a plain one: what is done is done with both, and fails unless both answer, and are then, the same.
type line struct {
	t *testing.T
	l *session.Line
	p *plainEnd
}

// newLine is one that has begun nothing.
func newLine(t *testing.T, to int) *line {
	t.Helper()
	l, e := session.NewLine(to)
	if e != api.OK || l == nil {
		t.Fatalf("to %d: a line %t, error %d", to, l != nil, e)
	}
	x := &line{t, l, &plainEnd{plain: plain{self: to}}}
	x.like()
	return x
}

// begun is a line to the switch 2 that begins the epoch 7 at the tick 0.
func begun(t *testing.T) *line {
	t.Helper()
	x := newLine(t, 2)
	x.begin(7, 0)
	return x
}

// opened is such a line, whose session is open with the boot 1, of which nothing was said yet.
func opened(t *testing.T) *line {
	t.Helper()
	x := begun(t)
	x.take(hi(2, 1), 0)
	x.take(ackFrom(2, 7, 0), 0)
	if !x.l.Open() {
		t.Fatal("it is not open")
	}
	return x
}

// like fails unless a line tells of itself what the plain one tells.
func (x *line) like() {
	x.t.Helper()
	l, p := x.l, x.p
	if open := p.open && !p.failed; l.Open() != open || l.Failed() != p.failed {
		x.t.Errorf("open %t, failed %t; asked for %t, %t", l.Open(), l.Failed(), open, p.failed)
	}
	if l.Left() != p.left() || l.Epoch() != p.body.epoch || l.Boot() != p.boot {
		x.t.Errorf("left %d, epoch %d, boot %d; asked for %d, %d, %d", l.Left(), l.Epoch(), l.Boot(), p.left(), p.body.epoch, p.boot)
	}
}

func (x *line) begin(epoch, now int) api.Errno {
	x.t.Helper()
	want := x.p.begin(epoch, now)
	if e := x.l.Begin(epoch, now); e != want {
		x.t.Errorf("begin %d at %d: error %d; asked for %d", epoch, now, e, want)
	}
	x.like()
	return want
}

func (x *line) send(o api.Order) api.Errno {
	x.t.Helper()
	want := x.p.send(o)
	if e := x.l.Send(o); e != want {
		x.t.Errorf("send %+v: error %d; asked for %d", o, e, want)
	}
	x.like()
	return want
}

func (x *line) tick(now int) []api.Seg {
	x.t.Helper()
	want := x.p.tick(now)
	said := x.l.Tick(now)
	if !sameSegs(said, want) {
		x.t.Errorf("tick %d: says %+v; asked for %+v", now, said, want)
	}
	x.like()
	return said
}

func (x *line) take(s api.Seg, now int) []api.Order {
	x.t.Helper()
	want, _, _ := x.p.take(s, now)
	told := x.l.Take(s, now)
	if !sameOrders(told, want) {
		x.t.Errorf("%+v at %d: tells %+v; asked for %+v", s, now, told, want)
	}
	x.like()
	return told
}

// says fails unless a line says just that at a tick.
func (x *line) says(now int, want ...api.Seg) {
	x.t.Helper()
	if said := x.tick(now); !sameSegs(said, want) {
		x.t.Errorf("tick %d: says %+v, not %+v", now, said, want)
	}
}

// tells fails unless a line tells just that of a segment.
func (x *line) tells(s api.Seg, now int, want ...api.Order) {
	x.t.Helper()
	if told := x.take(s, now); !sameOrders(told, want) {
		x.t.Errorf("%+v at %d: tells %+v, not %+v", s, now, told, want)
	}
}

// goesOn does some of all there is to do with a line, from a tick on, so that whatever it keeps is seen.
func (x *line) goesOn(now int) {
	x.t.Helper()
	for i := range 12 {
		x.tick(now + i)
	}
	x.send(barrier(99))
	if b := x.p.body; !x.p.open {
		x.take(hi(2, 88), now+12)
		x.take(ackFrom(2, b.epoch, 0), now+12)
	}
	b := x.p.body
	x.tick(now + 13)
	for _, n := range []int{0, 3, 2, 1, 4} {
		x.take(dataFrom(2, b.epoch, (b.next+n)%(lastShort+1), done(n)), now+14)
	}
	x.take(ackFrom(2, b.epoch, x.p.body.heard+1), now+15)
	x.tick(now + 15)
	x.tick(now + 19)
	x.take(ackFrom(2, b.epoch, x.p.body.said), now+20)
	for i := range 40 {
		x.tick(now + 21 + 7*i)
	}
}

// port is a port with a plain one, as a line is.
type port struct {
	t *testing.T
	r *session.Port
	p *plainEnd
}

// newPort is one without a session.
func newPort(t *testing.T, self, boot int) *port {
	t.Helper()
	r, e := session.NewPort(self, boot)
	if e != api.OK || r == nil {
		t.Fatalf("self %d, boot %d: a port %t, error %d", self, boot, r != nil, e)
	}
	x := &port{t, r, &plainEnd{plain: plain{self: self, isPort: true, boot: boot}}}
	x.like()
	return x
}

// bound is the port of the switch 2, of the boot 1, in the session of the epoch 7.
func bound(t *testing.T) *port {
	t.Helper()
	x := newPort(t, 2, 1)
	x.take(syn(2, 7, 1), 0)
	if x.r.Epoch() != 7 {
		t.Fatal("no session begins")
	}
	return x
}

// like fails unless a port tells of itself what the plain one tells.
func (x *port) like() {
	x.t.Helper()
	if x.r.Left() != x.p.left() || x.r.Epoch() != x.p.body.epoch {
		x.t.Errorf("left %d, epoch %d; asked for %d, %d", x.r.Left(), x.r.Epoch(), x.p.left(), x.p.body.epoch)
	}
}

func (x *port) send(o api.Order) api.Errno {
	x.t.Helper()
	want := x.p.send(o)
	if e := x.r.Send(o); e != want {
		x.t.Errorf("send %+v: error %d; asked for %d", o, e, want)
	}
	x.like()
	return want
}

func (x *port) tick(now int) []api.Seg {
	x.t.Helper()
	want := x.p.tick(now)
	said := x.r.Tick(now)
	if !sameSegs(said, want) {
		x.t.Errorf("tick %d: says %+v; asked for %+v", now, said, want)
	}
	x.like()
	return said
}

func (x *port) take(s api.Seg, now int) (told []api.Order, answer []api.Seg, begins bool) {
	x.t.Helper()
	wantTold, wantAnswer, wantBegins := x.p.take(s, now)
	told, answer, begins = x.r.Take(s, now)
	if !sameOrders(told, wantTold) || !sameSegs(answer, wantAnswer) || begins != wantBegins {
		x.t.Errorf("%+v at %d: tells %+v, answers %+v, begins %t; asked for %+v, %+v, %t", s, now, told, answer, begins, wantTold, wantAnswer, wantBegins)
	}
	x.like()
	return told, answer, begins
}

// says fails unless a port says just that at a tick.
func (x *port) says(now int, want ...api.Seg) {
	x.t.Helper()
	if said := x.tick(now); !sameSegs(said, want) {
		x.t.Errorf("tick %d: says %+v, not %+v", now, said, want)
	}
}

// tells fails unless a port tells just that of a segment, and answers nothing.
func (x *port) tells(s api.Seg, now int, want ...api.Order) {
	x.t.Helper()
	if told, answer, begins := x.take(s, now); !sameOrders(told, want) || len(answer) != 0 || begins {
		x.t.Errorf("%+v at %d: tells %+v, answers %+v, begins %t; not just %+v", s, now, told, answer, begins, want)
	}
}

// answers fails unless a port answers just that to a segment, and tells nothing.
func (x *port) answers(s api.Seg, now int, wantBegins bool, want ...api.Seg) {
	x.t.Helper()
	if told, answer, begins := x.take(s, now); len(told) != 0 || !sameSegs(answer, want) || begins != wantBegins {
		x.t.Errorf("%+v at %d: tells %+v, answers %+v, begins %t; not just %+v, %t", s, now, told, answer, begins, want, wantBegins)
	}
}

// goesOn does some of all there is to do with a port, from a tick on, so that whatever it keeps is seen.
func (x *port) goesOn(now int) {
	x.t.Helper()
	for i := range 12 {
		x.tick(now + i)
	}
	x.send(done(99))
	x.take(hello(2), now+12)
	x.take(syn(2, max(x.p.body.epoch, 1), x.p.boot), now+12)
	x.send(done(98))
	b := x.p.body
	x.tick(now + 13)
	for _, n := range []int{0, 3, 2, 1, 4} {
		x.take(dataTo(2, b.epoch, (b.next+n)%(lastShort+1), barrier(n)), now+14)
	}
	x.take(ackTo(2, b.epoch, x.p.body.heard+1), now+15)
	x.tick(now + 15)
	x.take(ackTo(2, b.epoch, x.p.body.said), now+20)
	for i := range 40 {
		x.tick(now + 21 + 7*i)
	}
}

// chance is a row of numbers that looks like chance.
type chance uint32

// below is the next number of the row, from 0 to n - 1.
func (c *chance) below(n int) int {
	*c = *c*1664525 + 1013904223
	return int(uint64(*c) * uint64(n) >> 32)
}
