package hail_test

import (
	"testing"

	"catenary/api"
	"catenary/hail"
)

// world is a controller that calls the switch 2, each time with a greater epoch, that switch, which may begin anew, and all that either has ever said: what was said may come at any time, as often as it wants, or never.
type world struct {
	t                *testing.T
	call             *hail.Call
	guest            *hail.Guest
	epoch, boot      int         // those of the call, and of the guest
	said             []api.Seg   // each once
	begun            map[int]int // of each epoch that was begun, by which boot it was, and one
	opened, restarts int
}

// newWorld is one in which nothing was said.
func newWorld(t *testing.T) *world {
	w := &world{t: t, boot: -1, begun: map[int]int{}}
	w.callAnew(1)
	w.beginAnew()
	return w
}

// callAnew calls with an epoch that is so much greater.
func (w *world) callAnew(more int) {
	w.epoch += more
	w.call, _ = newCall(w.t, 2, w.epoch)
}

// beginAnew lets the switch begin once more.
func (w *world) beginAnew() {
	w.boot++
	w.restarts++
	w.guest, _ = newGuest(w.t, 2, w.boot)
}

// keep keeps what was said.
func (w *world) keep(s api.Seg) {
	for _, other := range w.said {
		if same(other, s) {
			return
		}
	}
	w.said = append(w.said, s)
}

// says lets the call say what it has to say.
func (w *world) says() {
	if s, is := w.call.Says(); is {
		w.keep(s)
	}
}

// comes lets something that was said come to whom it is to.
func (w *world) comes(s api.Seg) {
	if s.To == 0 {
		w.comesToCall(s)
	} else {
		w.comesToGuest(s)
	}
}

// comesToGuest fails unless the guest's epoch is what it was, or has begun, with its own boot, above what it was, in no other life of the switch.
func (w *world) comesToGuest(s api.Seg) {
	was := w.guest.Epoch()
	answer, is, begins := w.guest.Take(s)
	if is {
		w.keep(answer)
	}
	now := w.guest.Epoch()
	if begins != (now != was) || now < was || w.guest.Boot() != w.boot {
		w.t.Fatalf("%+v: of the epoch %d the guest came to %d, begins %t, boot %d", s, was, now, begins, w.guest.Boot())
	}
	if !begins {
		return
	}
	if s.Boot != w.boot || w.begun[now] != 0 {
		w.t.Fatalf("%+v: epoch %d begins with the boot %d, and has begun with %d", s, now, w.boot, w.begun[now]-1)
	}
	w.begun[now] = w.boot + 1
}

// comesToCall fails unless the guest of the boot that the call knows has begun its epoch, if it is open.
func (w *world) comesToCall(s api.Seg) {
	was, boot := w.call.Open(), w.call.Boot()
	w.call.Take(s)
	if was && (!w.call.Open() || w.call.Boot() != boot) {
		w.t.Fatalf("%+v: what was open with %d is open %t with %d", s, boot, w.call.Open(), w.call.Boot())
	}
	if !w.call.Open() {
		return
	}
	if w.begun[w.epoch] != w.call.Boot()+1 {
		w.t.Fatalf("%+v: epoch %d is open with the boot %d, but has begun with %d", s, w.epoch, w.call.Boot(), w.begun[w.epoch]-1)
	}
	if !was {
		w.opened++
	}
}

// P16.5, P16.6: each row of eight steps: the call says something, is made anew, the switch begins anew, or one of the first things that were said comes.
func TestAllShortRows(t *testing.T) {
	const length, steps = 8, 6
	rows, opened := 1, 0
	for range length {
		rows *= steps
	}
	for row := range rows {
		w := newWorld(t)
		for i, rest := 0, row; i < length; i, rest = i+1, rest/steps {
			switch step := rest % steps; step {
			case 0:
				w.says()
			case 1:
				w.callAnew(1)
			case 2:
				w.beginAnew()
			default:
				if at := len(w.said) - 1 - (step - 3); at >= 0 {
					w.comes(w.said[at])
				}
			}
		}
		opened += w.opened
	}
	if opened == 0 {
		t.Error("no call was ever open")
	}
}

// P16.5, P16.6: long rows of such steps, in which whatever was said since long ago comes, often or never.
func TestLongRows(t *testing.T) {
	c := chance(16)
	for _, seldom := range []int{6, 20, 60, 200} {
		opened, restarts := 0, 0
		for range 200 {
			w := newWorld(t)
			for range 600 {
				switch c.below(seldom) {
				case 0:
					w.callAnew(1 + c.below(3))
				case 1:
					if c.below(4) == 0 {
						w.beginAnew()
					}
				default:
					if w.says(); len(w.said) > 0 {
						w.comes(w.said[max(c.below(len(w.said)), c.below(len(w.said)))])
					}
				}
			}
			opened, restarts = opened+w.opened, restarts+w.restarts
		}
		if opened < 200 || restarts < 300 {
			t.Errorf("of %d: only %d calls were open, in %d lives", seldom, opened, restarts)
		}
	}
}

// both lets a call say what it has to say so often, each time to a guest whose answer comes.
func both(c *hail.Call, g *hail.Guest, often int) {
	for range often {
		s, _ := c.Says()
		answer, _, _ := g.Take(s)
		c.Take(answer)
	}
}

// P16.6: what each says comes to the other one: behind two times a call is open, and behind one it is not, if the guest's epoch is below its own; it is never, if that is above.
func TestTwice(t *testing.T) {
	for to := 1; to <= 6; to++ {
		for _, boot := range []int{0, 1, 255, lastLong} {
			for _, had := range boots {
				for _, epoch := range longs {
					if had == epoch {
						continue
					}
					c, _ := newCall(t, to, epoch)
					g, _ := newGuest(t, to, boot)
					g.Take(syn(to, had, boot))
					both(c, g, 1)
					if c.Open() || c.Boot() != boot || g.Epoch() != had {
						t.Fatalf("epoch %d, the guest's %d: open %t behind one time", epoch, had, c.Open())
					}
					both(c, g, 1)
					if c.Open() != (epoch > had) || g.Epoch() != max(epoch, had) {
						t.Fatalf("epoch %d, the guest's %d: open %t, the guest's %d then", epoch, had, c.Open(), g.Epoch())
					}
					both(c, g, 5)
					if c.Open() != (epoch > had) || c.Boot() != boot || g.Epoch() != max(epoch, had) {
						t.Fatalf("epoch %d, the guest's %d: open %t, the guest's %d at last", epoch, had, c.Open(), g.Epoch())
					}
				}
			}
		}
	}
}

// P16.6: if the ack was lost, the guest answers anew, and the call is open.
func TestLostAck(t *testing.T) {
	c, _ := newCall(t, 3, 7)
	g, _ := newGuest(t, 3, 2)
	both(c, g, 1)
	for range 4 {
		s, _ := c.Says()
		g.Take(s)
	}
	if c.Open() || g.Epoch() != 7 {
		t.Errorf("open %t, the guest's epoch %d, before an ack comes", c.Open(), g.Epoch())
	}
	both(c, g, 1)
	if !c.Open() {
		t.Error("not open behind the ack")
	}
}

// P16.2, P16.5: a switch that has begun anew answers a call that knows its old boot no more; one of a greater epoch is open.
func TestBegunAnew(t *testing.T) {
	c, _ := newCall(t, 3, 7)
	g, _ := newGuest(t, 3, 2)
	both(c, g, 1)
	g, _ = newGuest(t, 3, 3)
	both(c, g, 5)
	g.Take(hello(3))
	if c.Take(hi(3, 3)) || c.Open() || c.Boot() != 2 || g.Epoch() != 0 {
		t.Errorf("open %t, boot %d, the guest's epoch %d", c.Open(), c.Boot(), g.Epoch())
	}
	c, _ = newCall(t, 3, 8)
	both(c, g, 2)
	if !c.Open() || c.Boot() != 3 || g.Epoch() != 8 {
		t.Errorf("anew: open %t, boot %d, the guest's epoch %d", c.Open(), c.Boot(), g.Epoch())
	}
}

// The document's own example.
func TestExamples(t *testing.T) {
	c, p := newCall(t, 2, 5)
	g, q := newGuest(t, 2, 3)
	first, is := c.Says()
	if !is || !same(first, hello(2)) {
		t.Errorf("says %+v, %t", first, is)
	}
	guestTakes(t, g, q, first)
	callTakes(t, c, p, hi(2, 3))
	second, is := c.Says()
	if !is || !same(second, syn(2, 5, 3)) {
		t.Errorf("says %+v, %t", second, is)
	}
	if answer, is, begins := g.Take(second); !is || !begins || !same(answer, ack(2, 5)) {
		t.Errorf("answers %+v, %t, begins %t", answer, is, begins)
	}
	if !c.Take(ack(2, 5)) || !c.Open() {
		t.Error("it does not open")
	}
	if s, is := c.Says(); is {
		t.Errorf("says %+v", s)
	}
	if answer, is, begins := g.Take(second); !is || begins || !same(answer, ack(2, 5)) {
		t.Errorf("answers %+v, %t, begins %t", answer, is, begins)
	}
}
