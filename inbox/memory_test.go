package inbox_test

import (
	"errors"
	"slices"
	"testing"

	"catenary/api"
	"catenary/inbox"
)

// spoil writes over messages and all of their spare room.
func spoil(l []message) {
	for i := range l[:cap(l)] {
		l[:cap(l)][i] = message{-7, -7}
	}
}

// P14.4: what is answered is new memory: whatever becomes of it, and of its spare room, the inbox tells the same still.
func TestAnsweredIsNew(t *testing.T) {
	states(t, func(first, told, bits int) {
		x, p := state(t, first, told, bits)
		for place := told; place < told+6; place++ {
			want, _ := p.takes(message{place, 1})
			out, _ := x.Take(p.number(place), message{place, 1})
			if !slices.Equal(out, want) {
				t.Errorf("place %d: %v; asked for %v", place, out, want)
			}
			spoil(out)
			comes(t, x, p, message{place + 2, 2})
			agree(t, x, p)
		}
		drained(t, x, p)
	})
}

// P14.4: an answer of before stays as it was, whatever the inbox becomes.
func TestAnswersStay(t *testing.T) {
	x, p := state(t, 65534, 0, 7)
	before, _ := x.Take(65534, message{0, 1})
	want := slices.Clone(before)
	p.takes(message{0, 1})
	for place := 4; place < 60; place++ {
		comes(t, x, p, message{place + 1, 3})
		comes(t, x, p, message{place, 3})
	}
	if len(want) != 4 || !slices.Equal(before, want) {
		t.Errorf("%v became %v", want, before)
	}
}

// P14.4: of the messages themselves none is made: what they point to is what was handed in, whether they were kept or not.
func TestMessagesThemselves(t *testing.T) {
	pointers := []*message{{1, 1}, {1, 1}, {1, 1}}
	x := made[*message](t, 0)
	takes(t, x, 2, pointers[2], api.OK)
	takes(t, x, 1, pointers[1], api.OK)
	takes(t, x, 0, pointers[0], api.OK, pointers...)

	late, now := []byte("late"), []byte("now")
	b := made[[]byte](t, 65535)
	if out, e := b.Take(0, late); len(out) != 0 || e != api.OK {
		t.Errorf("%q, error %d", out, e)
	}
	out, e := b.Take(65535, now)
	if e != api.OK || len(out) != 2 || &out[0][0] != &now[0] || &out[1][0] != &late[0] {
		t.Errorf("%q, error %d: other bytes than those that were handed in", out, e)
	}
	if string(now) != "now" || string(late) != "late" {
		t.Errorf("they became %q, %q", now, late)
	}
}

// ofType fails unless messages of any type are told as they were, kept or not.
func ofType[T comparable](t *testing.T, a, b, c T) {
	t.Helper()
	x := made[T](t, 65535)
	takes(t, x, 1, c, api.OK)
	takes(t, x, 2, a, api.OK)
	takes(t, x, 5, b, api.ErrRange)
	takes(t, x, -1, b, api.ErrArg)
	takes(t, x, 65535, a, api.OK, a)
	takes(t, x, 0, b, api.OK, b, c, a)
	counts(t, x, 3, 0)
}

// P14.2: messages are of any type, and may be zero ones, as those that are none.
func TestAnyType(t *testing.T) {
	ofType(t, "a", "", "c")
	ofType(t, 0, -1, 1<<62)
	ofType(t, true, false, true)
	ofType(t, struct{}{}, struct{}{}, struct{}{})
	ofType(t, [3]byte{1}, [3]byte{}, [3]byte{2})
	ofType(t, 1.5, 0, -2.5)
	ofType[any](t, nil, 3, "x")
	ofType[*int](t, nil, new(int), new(int))
	ofType(t, errors.New("a"), nil, errors.New("b"))
	ofType(t, api.Item{}.Seq, api.Item{Seq: 4}.Seq, 5)
	ofType(t, api.Probe{From: 1}, api.Probe{}, api.Probe{To: 2})
}

// P14.2: messages that can't be compared are told too: lists and orders are handed on, as they are.
func TestIncomparable(t *testing.T) {
	x := made[api.Order](t, 3)
	order := func(n int) api.Order {
		return api.Order{Kind: api.OrdAdd, Rule: api.Rule{Kind: api.RuleData, Prio: n, Outs: make([]api.Out, n)}}
	}
	x.Take(4, order(4))
	x.Take(4, order(5))
	out, e := x.Take(3, order(3))
	if e != api.OK || len(out) != 2 || len(out[0].Rule.Outs) != 3 || len(out[1].Rule.Outs) != 4 {
		t.Errorf("%v, error %d", out, e)
	}
	f := made[func() int](t, 0)
	f.Take(1, func() int { return 1 })
	calls, e := f.Take(0, func() int { return 0 })
	if e != api.OK || len(calls) != 2 || calls[0]() != 0 || calls[1]() != 1 {
		t.Errorf("%d functions, error %d", len(calls), e)
	}
}

// Two inboxes share nothing, though the same messages come to both.
func TestInboxesAreTheirOwn(t *testing.T) {
	one, other := made[string](t, 7), made[string](t, 7)
	for _, x := range []*inbox.Inbox[string]{one, other} {
		takes(t, x, 8, "b", api.OK)
	}
	takes(t, one, 7, "a", api.OK, "a", "b")
	counts(t, one, 9, 0)
	counts(t, other, 7, 1)
	takes(t, other, 9, "c", api.OK)
	counts(t, one, 9, 0)
	takes(t, other, 7, "x", api.OK, "x", "b", "c")
}
