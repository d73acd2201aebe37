package sender_test

import (
	"bytes"
	"math"
	"slices"
	"testing"

	"catenary/api"
	"catenary/sender"
)

// round is how many numbers there are.
const round = 65536

// below0 and far are numbers that are no window, and that no message has: just below 0, far away, and such as are one but for a multiple of 2^8, 2^16 or 2^32.
var (
	below0 = []int{math.MinInt, math.MinInt + 1, -1<<32 + 1, -round - 1, -round, -round + 1, -256, -255, -4, -3, -2, -1}
	far    = []int{round, round + 1, round + 4, 2*round - 1, 1 << 31, 1 << 32, 1<<32 + 1, 1<<53 - 1, math.MaxInt - 1, math.MaxInt}
)

// firsts are numbers at which something may turn.
var firsts = []int{0, 1, 2, 3, 4, 255, 256, 12345, 32766, 32767, 32768, 32769, 65531, 65532, 65533, 65534, 65535}

// plain is a sender as the document says it, which keeps all that it was handed.
type plain struct {
	window, first int
	put           [][]byte
	heard, told   int // how many of the first ones were heard, and were said
}

func (p *plain) puts(b []byte) api.Errno {
	if len(b) == 0 || len(b) > 256 {
		return api.ErrArg
	}
	if len(p.put) == 20000 {
		return api.ErrLimit
	}
	if len(p.put)-p.heard == 512 {
		return api.ErrFull
	}
	p.put = append(p.put, bytes.Clone(b))
	return api.OK
}

// items are the messages from one that was handed in to another one, with their numbers.
func (p *plain) items(from, to int) []api.Item {
	var l []api.Item
	for i := from; i < to; i++ {
		l = append(l, api.Item{Seq: p.number(i), B: p.put[i]})
	}
	return l
}

// number is the number of the message that was handed in as the one i.
func (p *plain) number(i int) int {
	return (p.first + i) % round
}

func (p *plain) fresh() []api.Item {
	from := p.told
	p.told = max(p.told, min(len(p.put), p.heard+p.window))
	return p.items(from, p.told)
}

func (p *plain) again() []api.Item {
	return p.items(p.heard, p.told)
}

func (p *plain) hears(ack int) (int, api.Errno) {
	for i := p.heard; i <= p.told; i++ {
		if p.number(i) == ack {
			n := i - p.heard
			p.heard = i
			return n, api.OK
		}
	}
	return 0, api.ErrRange
}

// made is a sender of a window and a first number, without messages.
func made(t *testing.T, window, first int) *sender.Sender {
	t.Helper()
	s, e := sender.New(window, first)
	if e != api.OK || s == nil {
		t.Fatalf("window %d, first %d: a sender %t, error %d", window, first, s != nil, e)
	}
	return s
}

// refused fails unless there is no sender of a window and a first number, by ErrArg.
func refused(t *testing.T, window, first int) {
	t.Helper()
	if s, e := sender.New(window, first); s != nil || e != api.ErrArg {
		t.Errorf("window %d, first %d: a sender %t, error %d; asked for error %d", window, first, s != nil, e, api.ErrArg)
	}
}

// filled is a sender that was handed n messages, none of which was said, and a plain one that is the same.
func filled(t *testing.T, window, first, n int) (*sender.Sender, *plain) {
	t.Helper()
	s, p := made(t, window, first), &plain{window: window, first: first}
	for i := range n {
		put(t, s, message(i), p.puts(message(i)))
	}
	return s, p
}

// message is the message of a number, unlike that of every other number.
func message(n int) []byte {
	return bytes.Repeat([]byte{byte(n), byte(n >> 8), byte(n >> 16)}, 1+n%7)
}

// item is the message of a number, as it is told with the number seq.
func item(seq, n int) api.Item {
	return api.Item{Seq: seq, B: message(n)}
}

// sameItem tells whether two items are the same.
func sameItem(a, b api.Item) bool {
	return a.Seq == b.Seq && bytes.Equal(a.B, b.B)
}

// put fails unless a message is put with that error.
func put(t *testing.T, s *sender.Sender, b []byte, want api.Errno) {
	t.Helper()
	if got := s.Put(b); got != want {
		t.Errorf("a message of %d bytes: error %d; asked for %d", len(b), got, want)
	}
}

// tells fails unless just those items were told, in that order.
func tells(t *testing.T, got []api.Item, want ...api.Item) {
	t.Helper()
	if !slices.EqualFunc(got, want, sameItem) {
		t.Errorf("told %v; asked for %v", got, want)
	}
}

// hears fails unless a sender answers that to what was heard.
func hears(t *testing.T, s *sender.Sender, ack, want int, e api.Errno) {
	t.Helper()
	if n, got := s.Heard(ack); n != want || got != e {
		t.Errorf("heard up to %d: %d, error %d; asked for %d, error %d", ack, n, got, want, e)
	}
}

// counts fails unless a sender has so many messages, so many of which were said, and that next number.
func counts(t *testing.T, s *sender.Sender, left, said, next int) {
	t.Helper()
	if s.Left() != left || s.Said() != said || s.Next() != next {
		t.Errorf("left %d, said %d, next %d; asked for %d, %d, %d", s.Left(), s.Said(), s.Next(), left, said, next)
	}
}

// agree fails unless a sender tells all that the plain one tells, but Fresh, which would change both.
func agree(t *testing.T, s *sender.Sender, p *plain) {
	t.Helper()
	counts(t, s, len(p.put)-p.heard, p.told-p.heard, p.number(p.heard))
	tells(t, s.Again(), p.again()...)
}

// drained fails unless a sender says what the plain one says, and hears what it hears, till no message is left.
func drained(t *testing.T, s *sender.Sender, p *plain) {
	t.Helper()
	for p.heard < len(p.put) {
		tells(t, s.Fresh(), p.fresh()...)
		tells(t, s.Fresh())
		agree(t, s, p)
		ack := p.number(p.told)
		n, e := p.hears(ack)
		hears(t, s, ack, n, e)
		agree(t, s, p)
		if t.Failed() {
			t.FailNow()
		}
	}
	tells(t, s.Fresh())
	agree(t, s, p)
}

// chance is a row of numbers that looks like chance.
type chance uint32

// below is the next number of the row, from 0 to n - 1.
func (c *chance) below(n int) int {
	*c = *c*1664525 + 1013904223
	return int(*c>>8) % n
}
