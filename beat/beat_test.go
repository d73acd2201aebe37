package beat_test

import (
	"math"
	"testing"

	"catenary/api"
	"catenary/beat"
)

// P15.1 to P15.3: the document's own examples.
func TestExamples(t *testing.T) {
	b := made(t, 2, 5)
	start(t, b, 10, api.OK)
	due(t, b, 11, false)
	due(t, b, 12, true)
	runs(t, b, 16, 1)
	due(t, b, 16, true)
	runs(t, b, 21, 2)
	due(t, b, 30, true)
	runs(t, b, 35, 3)
	b.Stop()
	due(t, b, 99, false)
	stands(t, b)
}

// P15.1: a first wait is from 1 to 1000, a longest one from that to 10000; the beat stands.
func TestNew(t *testing.T) {
	for first := 1; first <= 1000; first++ {
		for _, longest := range []int{first, first + 1, 2 * first, 9999, 10000} {
			if b := made(t, first, longest); b.Runs() || b.At() != 0 || b.Tries() != 0 || b.Due(last) {
				t.Fatalf("first %d, cap %d: it runs", first, longest)
			}
		}
		for _, longest := range []int{math.MinInt, -first, -1, 0, first - 1, 10001, 10000 + first, 1<<32 + first, 1 << 53, math.MaxInt} {
			refused(t, first, longest)
		}
	}
	waits(t, func(first, longest int) { stands(t, made(t, first, longest)) })
}

// P15.1: a first wait that may not be is refused, beside whatever the longest one is.
func TestNewFirst(t *testing.T) {
	for _, first := range []int{math.MinInt, -1<<32 + 1, -1000, -2, -1, 0, 1001, 1002, 9999, 10000, 10001, 1 << 16, 1<<32 + 1, 1 << 53, math.MaxInt} {
		for _, longest := range []int{math.MinInt, -1000, -1, 0, 1, 2, 999, 1000, 1001, 9999, 10000, 10001, math.MaxInt, first} {
			refused(t, first, longest)
		}
	}
}

// P15.1: from the tick 0 to the last one a beat is started, is due behind its first wait, and was not due yet.
func TestStart(t *testing.T) {
	for _, now := range append(ticks, last-1, last) {
		waits(t, func(first, longest int) {
			b := made(t, first, longest)
			start(t, b, now, api.OK)
			runs(t, b, now+first, 0)
			due(t, b, now, false)
			due(t, b, now+first-1, false)
			runs(t, b, now+first, 0)
		})
	}
}

// P15.1: a beat that runs, or was stopped, is started anew: it begins with its first wait, whatever was ahead, at an earlier tick, too.
func TestStartAnew(t *testing.T) {
	for tries := range 12 {
		for _, now := range []int{0, 3, 5000, 200000, last - 300000} {
			for _, stop := range []bool{false, true} {
				waits(t, func(first, longest int) {
					b, p := running(t, first, longest, 5000)
					for range tries {
						agree(t, b, p, p.at)
					}
					if stop {
						b.Stop()
					}
					start(t, b, now, api.OK)
					*p = started(first, longest, now)
					runs(t, b, p.at, 0)
					onward(t, b, p)
				})
			}
		}
	}
}

// P15.1, P15.4: what is no tick is ErrRange, and changes nothing of a beat that runs, was due, or stands.
func TestStartAtNoTick(t *testing.T) {
	for tries := range 5 {
		waits(t, func(first, longest int) {
			b, p := running(t, first, longest, 70)
			for range tries {
				agree(t, b, p, p.at)
			}
			for _, now := range noTicks {
				start(t, b, now, api.ErrRange)
				runs(t, b, p.at, tries)
			}
			onward(t, b, p)
		})
	}
	b := made(t, 3, 9)
	for range 2 {
		for _, now := range noTicks {
			start(t, b, now, api.ErrRange)
			stands(t, b)
		}
		start(t, b, 6, api.OK)
		b.Stop()
	}
}

// P15.1: a beat that is stopped stands, however often it was due, and however often it is stopped.
func TestStop(t *testing.T) {
	for tries := range 5 {
		b, p := running(t, 3, 17, 40)
		for range tries {
			agree(t, b, p, p.at)
		}
		for range 3 {
			b.Stop()
			stands(t, b)
		}
	}
	b := made(t, 3, 17)
	b.Stop()
	stands(t, b)
	start(t, b, 8, api.OK)
	runs(t, b, 11, 0)
}

// P15.2: a beat is due at its tick, or behind it; how late it is asked is how late it is due from then on, and makes no wait longer.
func TestDue(t *testing.T) {
	for _, late := range []int{0, 1, 2, 500, 10000, 123456} {
		for _, now := range ticks[:len(ticks)-2] {
			waits(t, func(first, longest int) {
				b, p := running(t, first, longest, now)
				for range 8 {
					for _, early := range []int{0, p.at / 2, p.at - 2, p.at - 1} {
						agree(t, b, p, early)
					}
					agree(t, b, p, p.at+late)
				}
			})
		}
	}
}

// P15.2: what is no tick is never due, and changes nothing.
func TestDueAtNoTick(t *testing.T) {
	waits(t, func(first, longest int) {
		b, p := running(t, first, longest, 10)
		for range 4 {
			for _, now := range noTicks {
				due(t, b, now, false)
				runs(t, b, p.at, p.tries)
			}
			agree(t, b, p, p.at)
		}
		onward(t, b, p)
	})
}

// P15.2: at the last tick a beat may be due still; what is due behind it never is.
func TestDueAtTheEnd(t *testing.T) {
	waits(t, func(first, longest int) {
		b, p := running(t, first, longest, last-first)
		agree(t, b, p, last-1)
		agree(t, b, p, last)
		runs(t, b, last+twice(first, longest), 1)
		for _, now := range []int{last - 1, last, last + 1, p.at - 1, p.at, p.at + 1, math.MaxInt} {
			agree(t, b, p, now)
		}
		b, p = running(t, first, longest, last-first+1)
		for _, now := range []int{last - 1, last, last + 1, p.at, math.MaxInt} {
			agree(t, b, p, now)
		}
		runs(t, b, last+1, 0)
	})
}

// P15.2: behind however many tries a beat goes on, each time as fast.
func TestManyTries(t *testing.T) {
	for _, longest := range []int{1, 3, 8, 10000} {
		b, p := running(t, 1, longest, 0)
		for range 3000000 {
			now := p.at
			if !p.due(now) || !b.Due(now) {
				t.Fatalf("cap %d: not due at %d", longest, now)
			}
		}
		runs(t, b, p.at, 3000000)
	}
}

// P15.3: asking what a beat is changes nothing.
func TestAskedOften(t *testing.T) {
	b, p := running(t, 2, 9, 5)
	for range 5 {
		for range 30 {
			runs(t, b, p.at, p.tries)
		}
		agree(t, b, p, p.at)
	}
}

// P15.1 to P15.3: of a beat that is none there is ErrNil, whatever the tick, false, 0, and nothing to be stopped.
func TestNone(t *testing.T) {
	var none *beat.Beat
	for _, b := range []*beat.Beat{none, {}, new(beat.Beat)} {
		for range 2 {
			for _, now := range append(noTicks, append(ticks, last)...) {
				start(t, b, now, api.ErrNil)
				b.Stop()
			}
			stands(t, b)
		}
	}
}
