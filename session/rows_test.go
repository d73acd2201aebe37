package session_test

import (
	"testing"

	"catenary/api"
)

// world is a line and ports of one switch, of which each begins anew now and then, and what they have said: it may come at any time, as often as it wants, also changed, or never.
type world struct {
	t     *testing.T
	c     chance
	line  *line
	port  *port
	boot  int
	now   int
	said  []api.Seg
	count counts
}

// counts are how often what has become.
type counts struct{ opened, failed, begun, told int }

// newWorld is one to the switch 2, in which nothing was said.
func newWorld(t *testing.T, seed int) *world {
	w := &world{t: t, c: chance(seed), boot: 1}
	w.line, w.port = newLine(t, 2), newPort(t, 2, 1)
	w.line.begin(1, 0)
	return w
}

// keep keeps what was said, but what is long ago.
func (w *world) keep(said []api.Seg) {
	w.said = append(w.said, said...)
	w.said = w.said[max(0, len(w.said)-60):]
}

// time goes on, mostly by one tick, sometimes by many, or back, or to what is no tick, for one step.
func (w *world) time() int {
	switch w.c.below(100) {
	case 0:
		return noTicks[w.c.below(len(noTicks))]
	case 1:
		return w.c.below(w.now + 1)
	case 2:
		w.now += w.c.below(50)
	default:
		w.now += w.c.below(3)
	}
	return w.now
}

// order is some order, of a number that rises; seldom it is one that may not be.
func (w *world) order(n int) api.Order {
	switch w.c.below(20) {
	case 0:
		return noOrders[w.c.below(len(noOrders))]
	case 1:
		return add(n % 60000)
	}
	return barrier(n)
}

// segment is something that was said, mostly of late; now and then a number of it is changed.
func (w *world) segment() api.Seg {
	if len(w.said) == 0 {
		return hello(2)
	}
	back := min(w.c.below(len(w.said)), w.c.below(len(w.said)), w.c.below(len(w.said)))
	s := w.said[len(w.said)-1-back]
	if w.c.below(12) == 0 {
		*fields(&s)[w.c.below(8)] += w.c.below(5) - 2
	}
	if s.Kind == 5 && w.c.below(12) == 0 {
		s.B = texts[w.c.below(len(texts))]
	}
	return s
}

// comes lets a segment come to whom it is to, or, now and then, to the other one.
func (w *world) comes(s api.Seg, now int) {
	if (s.To == 0) == (w.c.below(50) != 0) {
		w.count.told += len(w.line.take(s, now))
		return
	}
	told, answer, begins := w.port.take(s, now)
	w.keep(answer)
	w.count.told += len(told)
	if begins {
		w.count.begun++
	}
}

// step is one of all that may happen; anew says how seldom an end begins anew.
func (w *world) step(n, anew int) {
	was := w.line.p.plain
	switch {
	case w.c.below(anew) == 0:
		w.line.begin(w.line.p.body.epoch+w.c.below(5)-1, w.time())
	case w.c.below(anew) == 0:
		w.boot += w.c.below(2)
		w.port = newPort(w.t, 2, w.boot)
	}
	switch w.c.below(10) {
	case 0:
		w.line.send(w.order(n))
	case 1:
		w.port.send(w.order(n))
	case 2, 3:
		w.keep(w.line.tick(w.time()))
	case 4, 5:
		w.keep(w.port.tick(w.time()))
	default:
		w.comes(w.segment(), w.time())
	}
	if w.line.p.open && !was.open {
		w.count.opened++
	}
	if w.line.p.failed && !was.failed {
		w.count.failed++
	}
}

// P17.1 to P17.6: long rows of steps, each of which does, and leaves, what the document says.
func TestLongRows(t *testing.T) {
	var sum counts
	for _, anew := range []int{40, 200, 1500} {
		for seed := range 60 {
			w := newWorld(t, seed*1000+anew)
			for n := range 3000 {
				w.step(n, anew)
				if t.Failed() {
					t.Fatalf("anew %d, seed %d, step %d", anew, seed, n)
				}
			}
			sum.opened += w.count.opened
			sum.failed += w.count.failed
			sum.begun += w.count.begun
			sum.told += w.count.told
		}
	}
	if sum.opened < 500 || sum.failed < 100 || sum.begun < 500 || sum.told < 5000 {
		t.Errorf("too little has become: %+v", sum)
	}
}
