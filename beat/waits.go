package beat

import (
	"iter"
)

// waits tells waits, each behind so many tries, for good: the first one, then each time twice as long, the longest one at most.
func waits(first, longest int) iter.Seq2[int, int] {
	return func(yield func(int, int) bool) {
		tries, wait := 0, first
		for yield(tries, wait) {
			tries, wait = tries+1, min(2*wait, longest)
		}
	}
}

// wait is how long a beat waits now: the one of its waits that its tries tell.
func (b *Beat) wait() (ticks int) {
	for tries, wait := range waits(b.first, b.longest) {
		// Behind the longest one all are as long: who went on would go further with each try.
		if tries == b.tries || wait == b.longest {
			ticks = wait
			break
		}
	}
	return ticks
}
