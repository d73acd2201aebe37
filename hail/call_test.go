package hail_test

import (
	"math"
	"testing"

	"catenary/api"
	"catenary/hail"
)

// calls calls f with how a call to the switch 2 is made that asks, offers and is open, of many epochs and boots; f makes the same one as often as it wants.
func calls(t *testing.T, f func(epoch, boot int, made func() (*hail.Call, *plainCall))) {
	t.Helper()
	for _, n := range [][2]int{{5, 3}, {5, 0}, {1, 1}, {1, lastLong}, {lastLong, 0}, {lastLong, 7}} {
		epoch, boot := n[0], n[1]
		for steps := range 3 {
			f(epoch, boot, func() (*hail.Call, *plainCall) {
				c, p := newCall(t, 2, epoch)
				for _, s := range []api.Seg{hi(2, boot), ack(2, epoch)}[:steps] {
					p.takes(s)
					c.Take(s)
				}
				return c, p
			})
			if t.Failed() {
				t.Fatalf("epoch %d, boot %d, behind %d steps", epoch, boot, steps)
			}
		}
	}
}

// P16.1: a call is to a switch, with an epoch that is not 0; it asks, and says so.
func TestNewCall(t *testing.T) {
	for to := 1; to <= 6; to++ {
		for _, epoch := range longs {
			c, p := newCall(t, to, epoch)
			likeCall(t, c, p)
			if s, is := c.Says(); !is || !same(s, hello(to)) {
				t.Errorf("to %d, epoch %d: says %+v, %t", to, epoch, s, is)
			}
		}
		for _, epoch := range append(noLongs, 0) {
			noCall(t, to, epoch)
		}
	}
	for _, to := range noSwitches {
		for _, epoch := range append(noLongs, boots...) {
			noCall(t, to, epoch)
		}
	}
}

// P16.1, P16.2: what a call says while it asks, offers, and is open, for each switch, epoch and boot; what is asked changes nothing.
func TestCallSays(t *testing.T) {
	for to := 1; to <= 6; to++ {
		for _, epoch := range longs {
			for _, boot := range boots {
				c, p := newCall(t, to, epoch)
				for range 3 {
					likeCall(t, c, p)
				}
				callTakes(t, c, p, hi(to, boot))
				if s, is := c.Says(); !is || !same(s, syn(to, epoch, boot)) || c.Open() || c.Boot() != boot {
					t.Fatalf("says %+v, %t, open %t, boot %d", s, is, c.Open(), c.Boot())
				}
				for range 3 {
					likeCall(t, c, p)
				}
				callTakes(t, c, p, ack(to, epoch))
				if s, is := c.Says(); is || !same(s, api.Seg{}) || !c.Open() || c.Boot() != boot {
					t.Fatalf("says %+v, %t, open %t, boot %d", s, is, c.Open(), c.Boot())
				}
				for range 3 {
					likeCall(t, c, p)
				}
			}
		}
	}
}

// P16.2: whatever a call takes, while it asks, offers, or is open, it goes on by the right segment alone, and all else changes nothing of how it goes on.
func TestCallTakes(t *testing.T) {
	calls(t, func(epoch, boot int, made func() (*hail.Call, *plainCall)) {
		went := 0
		c, p := made()
		segments(epoch, boot, func(s api.Seg) {
			was := *p
			callTakes(t, c, p, s)
			if *p == was {
				return
			}
			went++
			callTakes(t, c, p, s)
			callTakes(t, c, p, hi(2, boot+1))
			callTakes(t, c, p, ack(2, epoch))
			callTakes(t, c, p, ack(2, epoch))
			c, p = made()
		})
		if asksOrOffers := !p.open; (went > 0) != asksOrOffers {
			t.Errorf("it went on by %d segments", went)
		}
		callTakes(t, c, p, hi(2, boot))
		callTakes(t, c, p, ack(2, epoch))
	})
}

// P16.2: the hops, and how much is heard, that a segment tells count for nothing.
func TestCallTakesAnyHops(t *testing.T) {
	for hops := range 13 {
		for _, n := range []int{0, 1, 9, lastShort} {
			c, _ := newCall(t, 4, 8)
			if !c.Take(api.Seg{Kind: 2, From: 4, Hops: hops, Boot: 6}) || c.Open() || c.Boot() != 6 {
				t.Errorf("hops %d: it does not offer", hops)
			}
			if !c.Take(api.Seg{Kind: 4, From: 4, Hops: hops, Epoch: 8, Ack: n}) || !c.Open() {
				t.Errorf("hops %d, ack %d: it is not open", hops, n)
			}
		}
	}
}

// P16.2: a call offers the boot that it heard first, also if that is 0, and no other one, whatever comes.
func TestNoOtherBoot(t *testing.T) {
	for _, first := range boots {
		for _, other := range boots {
			c, p := newCall(t, 1, 9)
			callTakes(t, c, p, hi(1, first))
			for range 2 {
				if c.Take(hi(1, other)) || c.Boot() != first {
					t.Fatalf("of %d it came to offer %d, as %d came", first, c.Boot(), other)
				}
				likeCall(t, c, p)
			}
			callTakes(t, c, p, ack(1, 9))
			if c.Take(hi(1, other)) || c.Boot() != first || !c.Open() {
				t.Fatalf("open with %d it came to be %t with %d, as %d came", first, c.Open(), c.Boot(), other)
			}
		}
	}
}

// P16.2: an ack opens no call that asks, and none of another epoch opens one.
func TestAckOfAnotherTime(t *testing.T) {
	for _, epoch := range longs {
		c, p := newCall(t, 3, epoch)
		for _, other := range longs {
			callTakes(t, c, p, ack(3, other))
		}
		if c.Open() || c.Boot() != 0 {
			t.Fatalf("epoch %d: it asks, and is open %t, boot %d", epoch, c.Open(), c.Boot())
		}
		callTakes(t, c, p, hi(3, 2))
		for _, other := range longs {
			if other != epoch {
				callTakes(t, c, p, ack(3, other))
			}
		}
		if c.Open() {
			t.Fatalf("epoch %d: another one opened it", epoch)
		}
		callTakes(t, c, p, ack(3, epoch))
	}
}

// P16.2: a call goes on by segments from its own switch alone.
func TestCallOfOthers(t *testing.T) {
	for to := 1; to <= 6; to++ {
		c, p := newCall(t, to, 4)
		for _, s := range []func(from int) api.Seg{
			func(from int) api.Seg { return hi(from, 3) },
			func(from int) api.Seg { return ack(from, 4) },
		} {
			for from := range 7 {
				if from != to && c.Take(s(from)) {
					t.Errorf("a call to %d goes on by %+v", to, s(from))
				}
				likeCall(t, c, p)
			}
			callTakes(t, c, p, s(to))
		}
	}
}

// P16.1, P16.2: two calls have nothing in common.
func TestCallsAreTheirOwn(t *testing.T) {
	a, p := newCall(t, 2, 5)
	b, q := newCall(t, 2, 5)
	callTakes(t, a, p, hi(2, 1))
	likeCall(t, b, q)
	callTakes(t, a, p, ack(2, 5))
	likeCall(t, b, q)
	callTakes(t, b, q, hi(2, 3))
	likeCall(t, a, p)
}

// Of a call that is none: nothing to be said, nothing that is taken, false, 0.
func TestNoCall(t *testing.T) {
	var none *hail.Call
	for _, c := range []*hail.Call{none, {}, new(hail.Call)} {
		for range 2 {
			for _, s := range []api.Seg{
				{}, {Kind: 2}, {Kind: 4}, {Kind: 4, Epoch: 1}, {Kind: math.MinInt}, hello(2), hi(2, 3), syn(2, 5, 3), ack(2, 5), ack(1, 1),
				{Kind: 4, To: 2, Epoch: 1}, {Kind: 5, To: 2, Epoch: 1, B: []byte{1}},
			} {
				if c.Take(s) {
					t.Errorf("it goes on by %+v", s)
				}
			}
			if s, is := c.Says(); is || !same(s, api.Seg{}) || c.Open() || c.Boot() != 0 {
				t.Errorf("says %+v, %t, open %t, boot %d", s, is, c.Open(), c.Boot())
			}
		}
	}
}
