package beat_test

import (
	"math"
	"testing"

	"catenary/api"
	"catenary/beat"
)

// last is the last tick.
const last = 1<<53 - 1

// noTicks are numbers that are no ticks: below 0, behind the last one, and such as are ticks but for a multiple of 2^32 or 2^53.
var noTicks = []int{
	math.MinInt, math.MinInt + 1, math.MinInt + 5000, -1 << 53, -1<<53 + 7, -1<<32 + 1, -1 << 31, -10000, -1000, -2, -1,
	last + 1, last + 2, last + 1000, last + 1001, last + 10000, 1 << 54, 1 << 62, math.MaxInt - 10000, math.MaxInt - 1, math.MaxInt,
}

// ticks are ticks at which something may turn.
var ticks = []int{0, 1, 2, 999, 1000, 65535, 65536, 1<<31 - 1, 1 << 31, 1<<32 - 1, 1 << 32, last - 20000, last - 1000}

// plain is a beat as the document says it, which runs.
type plain struct{ first, longest, at, wait, tries int }

// started is a plain beat that was started at a tick.
func started(first, longest, now int) plain {
	return plain{first: first, longest: longest, at: now + first, wait: twice(first, longest)}
}

// twice is twice a wait, the longest one at most.
func twice(wait, longest int) int {
	if 2*wait > longest {
		return longest
	}
	return 2 * wait
}

// due is whether the beat is due at a tick.
func (p *plain) due(now int) bool {
	if now < p.at || now > last {
		return false
	}
	p.tries++
	p.at = now + p.wait
	p.wait = twice(p.wait, p.longest)
	return true
}

// waits calls f with first waits and longest ones: those at the ends of what may be, and such as lie about each power of two of the first one.
func waits(t *testing.T, f func(first, longest int)) {
	t.Helper()
	for _, first := range []int{1, 2, 3, 4, 5, 7, 64, 100, 625, 999, 1000} {
		for power := first; power <= 10000; power *= 2 {
			for longest := max(first, power-1); longest <= min(power+1, 10000); longest++ {
				f(first, longest)
			}
		}
		f(first, 9999)
		f(first, 10000)
		if t.Failed() {
			t.Fatalf("first wait %d", first)
		}
	}
}

// made is a beat that stands.
func made(t *testing.T, first, longest int) *beat.Beat {
	t.Helper()
	b, e := beat.New(first, longest)
	if e != api.OK || b == nil {
		t.Fatalf("first %d, cap %d: a beat %t, error %d", first, longest, b != nil, e)
	}
	return b
}

// refused fails unless there is no beat of a first wait and a longest one, by ErrArg.
func refused(t *testing.T, first, longest int) {
	t.Helper()
	if b, e := beat.New(first, longest); b != nil || e != api.ErrArg {
		t.Errorf("first %d, cap %d: a beat %t, error %d; asked for error %d", first, longest, b != nil, e, api.ErrArg)
	}
}

// start fails unless a beat that is started at a tick answers that error.
func start(t *testing.T, b *beat.Beat, now int, want api.Errno) {
	t.Helper()
	if e := b.Start(now); e != want {
		t.Errorf("started at %d: error %d; asked for %d", now, e, want)
	}
}

// running is a beat that was started at a tick, and a plain one that is the same.
func running(t *testing.T, first, longest, now int) (*beat.Beat, *plain) {
	t.Helper()
	b, p := made(t, first, longest), started(first, longest, now)
	start(t, b, now, api.OK)
	runs(t, b, p.at, 0)
	return b, &p
}

// runs fails unless a beat runs, is due at a tick, and was due so often.
func runs(t *testing.T, b *beat.Beat, at, tries int) {
	t.Helper()
	if !b.Runs() || b.At() != at || b.Tries() != tries {
		t.Errorf("runs %t, at %d, tries %d; asked for true, %d, %d", b.Runs(), b.At(), b.Tries(), at, tries)
	}
}

// stands fails unless a beat stands, and is due at no tick.
func stands(t *testing.T, b *beat.Beat) {
	t.Helper()
	for _, now := range append([]int{last}, append(noTicks, ticks...)...) {
		due(t, b, now, false)
	}
	if b.Runs() || b.At() != 0 || b.Tries() != 0 {
		t.Errorf("runs %t, at %d, tries %d; asked for one that stands", b.Runs(), b.At(), b.Tries())
	}
}

// due fails unless a beat answers that to whether it is due at a tick.
func due(t *testing.T, b *beat.Beat, now int, want bool) {
	t.Helper()
	if is := b.Due(now); is != want {
		t.Errorf("due at %d: %t; asked for %t", now, is, want)
	}
}

// agree fails unless a beat is due at a tick if the plain one is, and both are the same then.
func agree(t *testing.T, b *beat.Beat, p *plain, now int) {
	t.Helper()
	due(t, b, now, p.due(now))
	runs(t, b, p.at, p.tries)
}

// onward fails unless a beat is due as the plain one is from here on, till its waits are long no more.
func onward(t *testing.T, b *beat.Beat, p *plain) {
	t.Helper()
	for range 18 {
		agree(t, b, p, p.at-1)
		agree(t, b, p, p.at)
	}
}

// chance is a row of numbers that looks like chance.
type chance uint32

// below is the next number of the row, from 0 to n - 1.
func (c *chance) below(n int) int {
	*c = *c*1664525 + 1013904223
	return int(*c>>8) % n
}
