package hail_test

import (
	"testing"

	"catenary/api"
	"catenary/hail"
)

// guests calls f with how a guest of the switch 2 is made that is without a session, and in sessions of some epochs; f makes the same one as often as it wants.
func guests(t *testing.T, f func(epoch, boot int, made func() (*hail.Guest, *plainGuest))) {
	t.Helper()
	for _, boot := range []int{0, 1, 3, lastLong} {
		for _, epoch := range []int{0, 1, 5, 1 << 31, lastLong - 1, lastLong} {
			f(epoch, boot, func() (*hail.Guest, *plainGuest) {
				g, p := newGuest(t, 2, boot)
				if epoch > 0 {
					g.Take(syn(2, epoch, boot))
					p.epoch = epoch
				}
				return g, p
			})
			if t.Failed() {
				t.Fatalf("epoch %d, boot %d", epoch, boot)
			}
		}
	}
}

// P16.3: a guest is of a switch, with a boot; it has no session.
func TestNewGuest(t *testing.T) {
	for self := 1; self <= 6; self++ {
		for _, boot := range boots {
			g, p := newGuest(t, self, boot)
			likeGuest(t, g, p)
		}
		for _, boot := range noLongs {
			noGuest(t, self, boot)
		}
	}
	for _, self := range noSwitches {
		for _, boot := range append(noLongs, boots...) {
			noGuest(t, self, boot)
		}
	}
}

// P16.3: a hello is answered by the boot, in a session and without one, as often as it comes, and begins nothing.
func TestHello(t *testing.T) {
	for self := 1; self <= 6; self++ {
		for _, boot := range boots {
			g, p := newGuest(t, self, boot)
			for _, epoch := range []int{1, 2, lastLong} {
				for hops := range 13 {
					answer, is, begins := g.Take(api.Seg{Kind: 1, To: self, Hops: hops})
					if !is || begins || !same(answer, hi(self, boot)) {
						t.Errorf("self %d, boot %d: %+v, %t, begins %t", self, boot, answer, is, begins)
					}
					likeGuest(t, g, p)
				}
				guestTakes(t, g, p, syn(self, epoch, boot))
			}
		}
	}
}

// P16.3: whatever a guest takes, in a session or without one, is answered as the document says, and begins what it says.
func TestGuestTakes(t *testing.T) {
	guests(t, func(epoch, boot int, made func() (*hail.Guest, *plainGuest)) {
		g, p := made()
		segments(epoch, boot, func(s api.Seg) {
			was := *p
			guestTakes(t, g, p, s)
			if *p == was {
				return
			}
			guestTakes(t, g, p, s)
			guestTakes(t, g, p, hello(2))
			g, p = made()
		})
		for _, other := range append([]int{epoch}, longs...) {
			guestTakes(t, g, p, syn(2, other, boot))
		}
	})
}

// P16.3: an epoch above the guest's begins, its own one is answered again, one below is not answered; what it is rises alone.
func TestSyn(t *testing.T) {
	for _, first := range longs {
		for _, then := range longs {
			g, _ := newGuest(t, 6, 9)
			answer, is, begins := g.Take(syn(6, first, 9))
			if !is || !begins || !same(answer, ack(6, first)) || g.Epoch() != first {
				t.Errorf("%d: %+v, %t, begins %t, epoch %d", first, answer, is, begins, g.Epoch())
			}
			answer, is, begins = g.Take(syn(6, then, 9))
			if begins != (then > first) || is != (then >= first) || g.Epoch() != max(first, then) {
				t.Errorf("%d behind %d: %t, begins %t, epoch %d", then, first, is, begins, g.Epoch())
			}
			if is && !same(answer, ack(6, then)) || !is && !same(answer, api.Seg{}) {
				t.Errorf("%d behind %d: %+v", then, first, answer)
			}
		}
	}
}

// P16.3: a syn with another boot is not answered, and begins nothing, neither where the guest has no session, nor in one, of its own epoch and of others.
func TestSynOfAnotherBoot(t *testing.T) {
	for _, boot := range boots {
		for _, other := range boots {
			if other == boot {
				continue
			}
			g, p := newGuest(t, 3, boot)
			for _, epoch := range []int{7, 255} {
				for _, offered := range longs {
					if answer, is, begins := g.Take(syn(3, offered, other)); is || begins || !same(answer, api.Seg{}) {
						t.Fatalf("boot %d took %d: %+v, %t, begins %t", boot, other, answer, is, begins)
					}
					likeGuest(t, g, p)
				}
				guestTakes(t, g, p, syn(3, epoch, boot))
			}
		}
	}
}

// P16.3: a guest answers what is to it alone.
func TestGuestOfOthers(t *testing.T) {
	for self := 1; self <= 6; self++ {
		g, p := newGuest(t, self, 1)
		for _, epoch := range []int{4, 5} {
			for to := range 7 {
				if to == self {
					continue
				}
				for _, s := range []api.Seg{hello(to), syn(to, epoch, 1), syn(to, 9, 1), hi(to, 1), ack(to, epoch)} {
					if answer, is, begins := g.Take(s); is || begins || !same(answer, api.Seg{}) {
						t.Errorf("guest %d, %+v: %+v, %t, begins %t", self, s, answer, is, begins)
					}
					likeGuest(t, g, p)
				}
			}
			guestTakes(t, g, p, syn(self, epoch, 1))
		}
	}
}

// P16.3: two guests have nothing in common.
func TestGuestsAreTheirOwn(t *testing.T) {
	a, p := newGuest(t, 2, 5)
	b, q := newGuest(t, 2, 5)
	guestTakes(t, a, p, syn(2, 8, 5))
	likeGuest(t, b, q)
	guestTakes(t, b, q, syn(2, 7, 5))
	likeGuest(t, a, p)
}

// Of a guest that is none: no answer, false, 0.
func TestNoGuest(t *testing.T) {
	var none *hail.Guest
	for _, g := range []*hail.Guest{none, {}, new(hail.Guest)} {
		for range 2 {
			for _, s := range []api.Seg{
				{}, {Kind: 1}, {Kind: 3, Epoch: 1}, hello(1), hello(0), hi(2, 0), syn(0, 1, 0), syn(2, 1, 0), ack(2, 5),
				{Kind: 1, From: 2}, {Kind: 3, From: 2, Epoch: 1}, {Kind: 4, From: 1, Epoch: 1}, {Kind: 5, From: 2, Epoch: 1, B: []byte{1}},
			} {
				if answer, is, begins := g.Take(s); is || begins || !same(answer, api.Seg{}) {
					t.Errorf("%+v: %+v, %t, begins %t", s, answer, is, begins)
				}
			}
			if g.Epoch() != 0 || g.Boot() != 0 {
				t.Errorf("epoch %d, boot %d", g.Epoch(), g.Boot())
			}
		}
	}
}
