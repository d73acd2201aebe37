package session_test

import (
	"testing"

	"catenary/api"
	"catenary/session"
)

// ends are a line and a port of the switch 2, whose orders have numbers of their own, by which it is seen whether what one tells is a beginning of what the other one was given in that epoch.
type ends struct {
	t           *testing.T
	line        *session.Line
	port        *session.Port
	epoch, boot int
	given       int
	toPort      map[int][]int // the numbers of the orders that the line was given, by their epochs
	toLine      map[int][]int // those that the port was given
	portTold    map[int]int   // how many of them were told
	lineTold    map[int]int
}

// newEnds are such that have begun nothing.
func newEnds(t *testing.T) *ends {
	x := &ends{t: t, boot: -1, toPort: map[int][]int{}, toLine: map[int][]int{}, portTold: map[int]int{}, lineTold: map[int]int{}}
	x.line, _ = session.NewLine(2)
	x.reboot()
	return x
}

// reboot lets the switch begin anew.
func (x *ends) reboot() {
	x.boot++
	x.port, _ = session.NewPort(2, x.boot)
}

// begin lets the line begin an epoch that is so much greater.
func (x *ends) begin(more, now int) {
	x.epoch += more
	if e := x.line.Begin(x.epoch, now); e != api.OK {
		x.t.Fatalf("begin %d: error %d", x.epoch, e)
	}
}

// give gives both ends an order, if they take one.
func (x *ends) give() {
	x.given++
	if x.line.Send(barrier(x.given)) == api.OK {
		x.toPort[x.epoch] = append(x.toPort[x.epoch], x.given)
	}
	if x.port.Send(done(x.given)) == api.OK {
		x.toLine[x.port.Epoch()] = append(x.toLine[x.port.Epoch()], x.given)
	}
}

// comes lets a segment come to whom it is to: what is answered.
func (x *ends) comes(s api.Seg, now int) []api.Seg {
	x.t.Helper()
	if s.To == 0 {
		x.isNext(x.line.Take(s, now), api.OrdDone, x.toLine[x.epoch], x.lineTold, x.epoch)
		return nil
	}
	told, answer, _ := x.port.Take(s, now)
	epoch := x.port.Epoch()
	x.isNext(told, api.OrdBarrier, x.toPort[epoch], x.portTold, epoch)
	return answer
}

// isNext fails unless what is told in an epoch follows, of what was given in it, what was told ahead.
func (x *ends) isNext(l []api.Order, kind int, given []int, told map[int]int, epoch int) {
	x.t.Helper()
	for _, o := range l {
		n := told[epoch]
		if n >= len(given) || o.Kind != kind || o.N != given[n] {
			x.t.Fatalf("epoch %d: tells %+v, of %v, of which %d were told", epoch, o, given, n)
		}
		told[epoch]++
	}
}

// sum is the sum of numbers.
func sum(l map[int]int) (n int) {
	for _, m := range l {
		n += m
	}
	return n
}

// P17.8: what was said may come at any time, as often as it wants, or never; both ends begin anew now and then: what is told in an epoch is a beginning of what was given in it.
func TestInOrderAndOnce(t *testing.T) {
	for _, anew := range []int{60, 600, 6000} {
		c, toPort, toLine := chance(anew), 0, 0
		for range 30 {
			x := newEnds(t)
			var said []api.Seg
			x.begin(1, 0)
			for now := range 4000 {
				if c.below(anew) == 0 {
					x.begin(1+c.below(3), now)
				}
				if c.below(anew) == 0 {
					x.reboot()
				}
				if c.below(3) == 0 {
					x.give()
				}
				if x.line.Failed() {
					x.begin(1, now)
				}
				said = append(said, x.line.Tick(now)...)
				said = append(said, x.port.Tick(now)...)
				for range 3 {
					if at := len(said) - 1 - min(c.below(len(said)+1), c.below(len(said)+1), c.below(len(said)+1), c.below(8)+c.below(8)*c.below(8)); at >= 0 {
						said = append(said, x.comes(said[at], now)...)
					}
				}
				if c.below(5) == 0 && len(said) > 0 {
					said = append(said, x.comes(said[c.below(len(said))], now)...)
				}
			}
			toPort, toLine = toPort+sum(x.portTold), toLine+sum(x.lineTold)
		}
		if toPort < 300 || toLine < 300 {
			t.Errorf("anew %d: only %d and %d orders were told", anew, toPort, toLine)
		}
	}
}

// lanes are segments under way, by the tick at which they come.
type lanes map[int][]api.Seg

// round is a tick of both ends: of all that is said, what is not lost comes within two ticks, some of it twice.
func (x *ends) round(c *chance, under lanes, now int, loses bool) {
	x.t.Helper()
	say := func(said []api.Seg) {
		for _, s := range said {
			if loses && c.below(10) < 9 {
				continue
			}
			for range 1 + c.below(4)/3 {
				at := now + c.below(3)
				under[at] = append(under[at], s)
			}
		}
	}
	if c.below(2) == 0 {
		say(x.port.Tick(now))
		say(x.line.Tick(now))
	} else {
		say(x.line.Tick(now))
		say(x.port.Tick(now))
	}
	for len(under[now]) > 0 {
		at := c.below(len(under[now]))
		s := under[now][at]
		under[now] = append(under[now][:at], under[now][at+1:]...)
		say(x.comes(s, now))
	}
	delete(under, now)
}

// rest is how many orders of the epoch are not told yet.
func (x *ends) rest() int {
	return len(x.toPort[x.epoch]) - x.portTold[x.epoch] + len(x.toLine[x.epoch]) - x.lineTold[x.epoch]
}

// P17.9: all comes within two ticks, from the beginning of an epoch on: the line is open soon, and all is told, six ticks a window.
func TestAllIsTold(t *testing.T) {
	c := chance(17)
	for _, n := range []int{0, 1, 4, 5, 40, 300} {
		for range 40 {
			x, under, now := newEnds(t), lanes{}, 0
			x.begin(1, now)
			for ; now < 150; now++ {
				if c.below(8) == 0 {
					x.give()
				}
				if x.line.Failed() {
					x.begin(1, now)
				}
				x.round(&c, under, now, true)
			}
			x.begin(1, now)
			first := now
			for range n {
				x.give()
			}
			for ; now < first+16; now++ {
				x.round(&c, under, now, false)
			}
			if !x.line.Open() || x.port.Epoch() != x.epoch {
				t.Fatalf("open %t, the port's epoch %d of %d", x.line.Open(), x.port.Epoch(), x.epoch)
			}
			for i := range n {
				if x.line.Left()+x.port.Left() > 500 {
					break
				}
				if i%2 == 0 {
					x.give()
				}
			}
			most := max(len(x.toPort[x.epoch]), len(x.toLine[x.epoch]))
			for last := now + 12 + 6*((most+3)/4); now < last; now++ {
				x.round(&c, under, now, false)
			}
			if x.rest() != 0 || x.line.Left() != 0 || x.port.Left() != 0 || !x.line.Open() {
				t.Fatalf("of %d: %d are not told, %d and %d not heard", most, x.rest(), x.line.Left(), x.port.Left())
			}
		}
	}
}

// P17.9: a session that goes on while much is lost tells all when no more is lost, one wait of a beat later.
func TestAllIsToldThen(t *testing.T) {
	c, went := chance(71), 0
	for range 300 {
		x, under, now := newEnds(t), lanes{}, 0
		x.begin(1, now)
		for ; now < 20; now++ {
			x.round(&c, under, now, false)
		}
		for last := now + 150; now < last; now++ {
			if c.below(12) == 0 {
				x.give()
			}
			x.round(&c, under, now, true)
		}
		if x.rest() > 0 {
			went++
		}
		if x.line.Failed() {
			t.Fatalf("it has failed behind %d ticks", now)
		}
		most := max(len(x.toPort[x.epoch]), len(x.toLine[x.epoch]))
		for last := now + 32 + 12 + 6*((most+3)/4); now < last; now++ {
			x.round(&c, under, now, false)
		}
		if x.rest() != 0 || x.line.Left() != 0 || x.port.Left() != 0 || !x.line.Open() {
			t.Fatalf("of %d: %d are not told, %d and %d not heard", most, x.rest(), x.line.Left(), x.port.Left())
		}
	}
	if went < 200 {
		t.Errorf("only %d times something was not told when no more was lost", went)
	}
}

// The document's own example.
func TestExamples(t *testing.T) {
	l, _ := session.NewLine(2)
	p, _ := session.NewPort(2, 1)
	if e := l.Begin(7, 0); e != api.OK {
		t.Fatalf("begin: error %d", e)
	}
	is := func(got []api.Seg, want ...api.Seg) {
		t.Helper()
		if !sameSegs(got, want) {
			t.Errorf("%+v; asked for %+v", got, want)
		}
	}
	is(l.Tick(0))
	is(l.Tick(4), hello(2))
	_, answer, begins := p.Take(hello(2), 4)
	is(answer, hi(2, 1))
	if begins {
		t.Error("a session begins by a SegHello")
	}
	l.Take(hi(2, 1), 5)
	is(l.Tick(5), syn(2, 7, 1))
	_, answer, begins = p.Take(syn(2, 7, 1), 5)
	is(answer, ackFrom(2, 7, 0))
	if !begins {
		t.Error("no session begins")
	}
	tag := api.Order{Kind: api.OrdTag, N: 3}
	if e := l.Send(tag); e != api.OK {
		t.Errorf("send: error %d", e)
	}
	if told := l.Take(ackFrom(2, 7, 0), 6); len(told) != 0 {
		t.Errorf("tells %+v", told)
	}
	is(l.Tick(6), dataTo(2, 7, 0, tag))
	if told, _, _ := p.Take(dataTo(2, 7, 0, tag), 6); !sameOrders(told, []api.Order{tag}) {
		t.Errorf("tells %+v", told)
	}
	is(p.Tick(7), ackFrom(2, 7, 1))
}
