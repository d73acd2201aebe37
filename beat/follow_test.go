package beat_test

import (
	"testing"

	"catenary/api"
)

// P15.5: asked at each tick, a beat is due after its first wait, then twice that, four times that, and so on, the longest one at most.
func TestEachTick(t *testing.T) {
	for _, from := range []int{0, 77, last - 90000} {
		waits(t, func(first, longest int) {
			b, _ := running(t, first, longest, from)
			wait, at := first, from+first
			for now := from; now < from+40000; now++ {
				if b.Due(now) != (now == at) {
					t.Fatalf("first %d, cap %d, from %d: wrong at %d; due at %d", first, longest, from, now, at)
				}
				if now == at {
					wait = min(2*wait, longest)
					at += wait
				}
			}
		})
	}
}

// P15.5: the waits of some beats, written out.
func TestWrittenOut(t *testing.T) {
	rows := []struct {
		first, longest int
		waits          []int
	}{
		{1, 1, []int{1, 1, 1, 1, 1}},
		{1, 2, []int{1, 2, 2, 2, 2}},
		{1, 3, []int{1, 2, 3, 3, 3}},
		{4, 32, []int{4, 8, 16, 32, 32, 32}},
		{3, 100, []int{3, 6, 12, 24, 48, 96, 100, 100}},
		{1000, 1000, []int{1000, 1000, 1000}},
		{1000, 10000, []int{1000, 2000, 4000, 8000, 10000, 10000}},
		{1, 10000, []int{1, 2, 4, 8, 16, 32, 64, 128, 256, 512, 1024, 2048, 4096, 8192, 10000, 10000}},
	}
	for _, row := range rows {
		b, _ := running(t, row.first, row.longest, 100)
		at := 100
		for i, wait := range row.waits {
			at += wait
			runs(t, b, at, i)
			due(t, b, at-1, false)
			due(t, b, at, true)
			due(t, b, at, false)
		}
		if t.Failed() {
			t.Fatalf("first %d, cap %d", row.first, row.longest)
		}
	}
}

// P15.6: in n ticks, from whichever one on, a beat is due no more often than n by its first wait, and one, however often it is asked, and started anew.
func TestNoMoreOften(t *testing.T) {
	c := chance(6)
	waits(t, func(first, longest int) {
		for _, anew := range []int{0, 3 * first, 20 * first} {
			b, _ := running(t, first, longest, 0)
			var dues []int
			for now, step := 0, 0; step < 400; step++ {
				now += c.below(1 + c.below(2*first))
				if anew > 0 && c.below(anew) == 0 {
					start(t, b, now, api.OK)
				}
				if b.Due(now) {
					dues = append(dues, now)
				}
			}
			for i := range dues {
				for j := i; j < len(dues); j++ {
					if n := dues[j] - dues[i] + 1; j-i+1 > n/first+1 {
						t.Fatalf("first %d, cap %d: due %d times in %d ticks", first, longest, j-i+1, n)
					}
				}
			}
		}
	})
}

// P15.1 to P15.4: a long row of calls, whatever they are, answers what a plain beat answers.
func TestLongRows(t *testing.T) {
	c := chance(15)
	waits(t, func(first, longest int) {
		b, p := running(t, first, longest, 50000)
		for range 400 {
			switch now := p.at - 3 + c.below(6); c.below(12) {
			case 0:
				b.Stop()
				stands(t, b)
				fallthrough
			case 1:
				start(t, b, now, api.OK)
				*p = started(first, longest, now)
			case 2:
				start(t, b, noTicks[c.below(len(noTicks))], api.ErrRange)
			case 3:
				agree(t, b, p, now+c.below(30000))
			default:
				agree(t, b, p, now)
			}
			runs(t, b, p.at, p.tries)
		}
	})
}

// P15.1 to P15.3: beats have nothing in common, those of the same waits, too.
func TestApart(t *testing.T) {
	c := chance(3)
	a, p := running(t, 2, 11, 10)
	b, q := running(t, 2, 11, 300)
	for range 2000 {
		agree(t, a, p, p.at-c.below(2))
		agree(t, b, q, q.at-c.below(2))
		switch c.below(40) {
		case 0:
			start(t, a, p.at, api.OK)
			*p = started(2, 11, p.at)
		case 1:
			b.Stop()
			start(t, b, q.at, api.OK)
			*q = started(2, 11, q.at)
		}
		runs(t, a, p.at, p.tries)
		runs(t, b, q.at, q.tries)
	}
}
