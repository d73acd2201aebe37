package inbox_test

import (
	"slices"
	"testing"

	"catenary/api"
	"catenary/inbox"
)

// P14.1 to P14.3: the document's own examples.
func TestExamples(t *testing.T) {
	x := made[string](t, 65535)
	takes(t, x, 0, "b", api.OK)
	takes(t, x, 0, "x", api.OK)
	takes(t, x, 65535, "a", api.OK, "a", "b")
	counts(t, x, 1, 0)
	takes(t, x, 65535, "a", api.ErrRange)
	takes(t, x, 5, "z", api.ErrRange)
	takes(t, x, 4, "y", api.OK)
	counts(t, x, 1, 1)
}

// P14.1: a first number is from 0 to 65535; each of these is the next number, and nothing is kept.
func TestNew(t *testing.T) {
	for first := range round {
		counts(t, made[message](t, first), first, 0)
	}
	for _, first := range outside {
		if x, e := inbox.New[message](first); x != nil || e != api.ErrArg {
			t.Errorf("first %d: an inbox %t, error %d; asked for error %d", first, x != nil, e, api.ErrArg)
		}
	}
}

// P14.2: messages that come in order are told one by one, once round all numbers and more.
func TestInOrder(t *testing.T) {
	for _, first := range []int{0, 65535, 32767} {
		x := made[int](t, first)
		for i := range round + 1000 {
			seq := (first + i) % round
			takes(t, x, seq, i, api.OK, i)
			counts(t, x, (seq+1)%round, 0)
		}
	}
}

// P14.2: in each state the next number is told with all that follow it, those ahead are kept, and others are ErrRange and change nothing.
func TestTake(t *testing.T) {
	states(t, func(first, told, bits int) {
		for far := -6; far <= 8; far++ {
			x, p := state(t, first, told, bits)
			comes(t, x, p, message{told + far, 1})
			drained(t, x, p)
		}
	})
}

// P14.2: whatever of the three ahead is kept, the next one is told with those that follow it without a gap, and no others.
func TestFollowers(t *testing.T) {
	follow := [8]int{0, 1, 0, 2, 0, 1, 0, 3} // of the bits that tell which are kept
	kept := [8]int{0, 0, 1, 0, 1, 1, 2, 0}   // how many stay
	states(t, func(first, told, bits int) {
		x, p := state(t, first, told, bits)
		want := []message{{told, 7}}
		for i := range follow[bits] {
			want = append(want, message{told + 1 + i, 0})
		}
		takes(t, x, p.number(told), message{told, 7}, api.OK, want...)
		counts(t, x, p.number(told+1+follow[bits]), kept[bits])
	})
}

// P14.2: a gap that is filled lets what was kept behind it be told, gap by gap.
func TestGaps(t *testing.T) {
	x := made[string](t, 65534)
	takes(t, x, 1, "d", api.OK)
	takes(t, x, 65535, "b", api.OK)
	counts(t, x, 65534, 2)
	takes(t, x, 65534, "a", api.OK, "a", "b")
	counts(t, x, 0, 1)
	takes(t, x, 3, "f", api.OK)
	takes(t, x, 2, "e", api.OK)
	takes(t, x, 4, "g", api.ErrRange)
	counts(t, x, 0, 3)
	takes(t, x, 0, "c", api.OK, "c", "d", "e", "f")
	counts(t, x, 4, 0)
	takes(t, x, 4, "g", api.OK, "g")
}

// P14.2: of several messages of one number that are ahead the first one stays, however many come; the next one is told as it comes now.
func TestFirstOneStays(t *testing.T) {
	for _, first := range firsts {
		x, p := both(t, first)
		for again := range 5 {
			for _, ahead := range []int{3, 1, 2} {
				takes(t, x, p.number(ahead), message{ahead, again}, api.OK)
			}
			counts(t, x, first, 3)
		}
		takes(t, x, first, message{0, 8}, api.OK, message{0, 8}, message{1, 0}, message{2, 0}, message{3, 0})
		counts(t, x, p.number(4), 0)
		takes(t, x, p.number(5), message{5, 9}, api.OK)
		takes(t, x, p.number(4), message{4, 9}, api.OK, message{4, 9}, message{5, 9})
	}
}

// P14.2: of all numbers that there are just the next one and the three ahead of it are taken, whatever is kept.
func TestTakeOfAllNumbers(t *testing.T) {
	for _, first := range firsts {
		for bits := range 8 {
			x, p := state(t, first, 2, bits)
			for far := 4; far < round; far++ {
				takes(t, x, p.number(2+far), message{far, 1}, api.ErrRange)
			}
			agree(t, x, p)
			drained(t, x, p)
		}
	}
}

// P14.2: a number that no message has is ErrArg, also if it is the right one but for multiples of 65536, and changes nothing.
func TestTakeOutside(t *testing.T) {
	states(t, func(first, told, bits int) {
		x, p := state(t, first, told, bits)
		numbers := slices.Clone(outside)
		for far := range 5 {
			n := p.number(told + far)
			numbers = append(numbers, n+round, n-round, n+5*round, n-5*round, n+1<<32, n-1<<32)
		}
		for _, seq := range numbers {
			takes(t, x, seq, message{told, 1}, api.ErrArg)
		}
		agree(t, x, p)
		drained(t, x, p)
	})
}

// P14.3: what is asked changes nothing.
func TestAskedAgain(t *testing.T) {
	states(t, func(first, told, bits int) {
		x, p := state(t, first, told, bits)
		for range 3 {
			agree(t, x, p)
		}
		drained(t, x, p)
	})
}

// none fails unless an inbox is none: ErrNil, ahead of what is wrong with an argument; nothing; 0.
func none[T comparable](t *testing.T, x *inbox.Inbox[T], m T) {
	t.Helper()
	for range 2 {
		for _, seq := range slices.Concat(outside, firsts) {
			takes(t, x, seq, m, api.ErrNil)
		}
		counts(t, x, 0, 0)
	}
}

// Of an inbox that is none, nil or a zero one, of messages of any type: ErrNil, 0.
func TestNone(t *testing.T) {
	none(t, nil, message{1, 2})
	none(t, &inbox.Inbox[message]{}, message{1, 2})
	none(t, new(inbox.Inbox[string]), "a")
	none[any](t, nil, nil)
	none(t, &inbox.Inbox[struct{}]{}, struct{}{})
}
