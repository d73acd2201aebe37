package inbox_test

import (
	"math"
	"slices"
	"testing"

	"catenary/api"
	"catenary/inbox"
)

// round is how many numbers there are.
const round = 65536

// outside are numbers that no message has: below 0, far away, and such as are one but for a multiple of 2^16 or 2^32.
var outside = []int{
	math.MinInt, math.MinInt + 1, -1 << 32, -1<<32 + 1, -2 * round, -round - 1, -round, -round + 1, -32768, -4, -3, -2, -1,
	round, round + 1, round + 2, round + 3, round + 4, 2*round - 1, 2 * round, 1 << 31, 1 << 32, 1<<32 + 1, 1<<53 - 1, math.MaxInt - 1, math.MaxInt,
}

// firsts are numbers at which something may turn.
var firsts = []int{0, 1, 2, 3, 4, 255, 256, 12345, 32764, 32765, 32766, 32767, 32768, 32769, 65531, 65532, 65533, 65534, 65535}

// message is a message of the tests: at which place of all of them it stands, and which copy of it it is.
type message struct{ place, copy int }

// plain is an inbox as the document says it, of which places are those of all messages, and do not go round.
type plain struct {
	first, told int       // the number of the place 0; how many places were told
	kept        []message // in the order in which they came
}

// number is the number of the message at a place.
func (p *plain) number(place int) int {
	return ((p.first+place)%round + round) % round
}

// at is the message that is kept of a place; -1, if there is none.
func (p *plain) at(place int) int {
	return slices.IndexFunc(p.kept, func(m message) bool { return m.place == place })
}

// takes is what the inbox answers to a message that comes with the number of its place.
func (p *plain) takes(m message) ([]message, api.Errno) {
	if m.place < p.told || m.place > p.told+3 {
		return nil, api.ErrRange
	}
	if p.at(m.place) < 0 {
		p.kept = append(p.kept, m)
	}
	if m.place > p.told {
		return nil, api.OK
	}
	var out []message
	for i := p.at(p.told); i >= 0; i = p.at(p.told) {
		out = append(out, p.kept[i])
		p.kept = slices.Delete(p.kept, i, i+1)
		p.told++
	}
	return out, api.OK
}

// made is an inbox that has a first number, without messages.
func made[T any](t *testing.T, first int) *inbox.Inbox[T] {
	t.Helper()
	x, e := inbox.New[T](first)
	if e != api.OK || x == nil {
		t.Fatalf("first %d: an inbox %t, error %d", first, x != nil, e)
	}
	return x
}

// both is an inbox that has a first number, and a plain one that is the same.
func both(t *testing.T, first int) (*inbox.Inbox[message], *plain) {
	t.Helper()
	return made[message](t, first), &plain{first: first}
}

// state is an inbox that has told so many messages, and keeps those that so many bits tell to be 1, 2, 3 ahead, and a plain one that is the same.
func state(t *testing.T, first, told, bits int) (*inbox.Inbox[message], *plain) {
	t.Helper()
	x, p := both(t, first)
	for place := range told {
		comes(t, x, p, message{place, 0})
	}
	for ahead := 1; ahead <= 3; ahead++ {
		if bits>>(ahead-1)&1 == 1 {
			comes(t, x, p, message{told + ahead, 0})
		}
	}
	return x, p
}

// states calls f with many first numbers, and all that may be kept behind some messages that were told.
func states(t *testing.T, f func(first, told, bits int)) {
	t.Helper()
	for _, first := range firsts {
		for _, told := range []int{0, 1, 5} {
			for bits := range 8 {
				f(first, told, bits)
				if t.Failed() {
					t.Fatalf("first %d, %d told, bits %03b kept", first, told, bits)
				}
			}
		}
	}
}

// takes fails unless a message that comes with a number is answered by that error, and by just those messages.
func takes[T comparable](t *testing.T, x *inbox.Inbox[T], seq int, m T, e api.Errno, want ...T) {
	t.Helper()
	out, got := x.Take(seq, m)
	if got != e || !slices.Equal(out, want) {
		t.Errorf("number %d, message %v: %v, error %d; asked for %v, error %d", seq, m, out, got, want, e)
	}
}

// comes fails unless a message that comes with the number of its place is answered as the plain inbox answers it.
func comes(t *testing.T, x *inbox.Inbox[message], p *plain, m message) {
	t.Helper()
	want, e := p.takes(m)
	takes(t, x, p.number(m.place), m, e, want...)
	agree(t, x, p)
}

// counts fails unless an inbox has that next number, and keeps so many messages.
func counts[T any](t *testing.T, x *inbox.Inbox[T], ack, waits int) {
	t.Helper()
	if x.Ack() != ack || x.Waits() != waits {
		t.Errorf("ack %d, waits %d; asked for %d, %d", x.Ack(), x.Waits(), ack, waits)
	}
}

// agree fails unless an inbox has the next number of the plain one, and keeps as many messages.
func agree(t *testing.T, x *inbox.Inbox[message], p *plain) {
	t.Helper()
	counts(t, x, p.number(p.told), len(p.kept))
}

// drained fails unless an inbox tells what the plain one tells, when all messages come that are not kept, and some behind them.
func drained(t *testing.T, x *inbox.Inbox[message], p *plain) {
	t.Helper()
	for place, end := p.told, p.told+8; place < end; place++ {
		comes(t, x, p, message{place, 99})
	}
}

// chance is a row of numbers that looks like chance.
type chance uint32

// below is the next number of the row, from 0 to n - 1.
func (c *chance) below(n int) int {
	*c = *c*1664525 + 1013904223
	return int(*c>>8) % n
}
