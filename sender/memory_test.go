package sender_test

import (
	"bytes"
	"testing"

	"catenary/api"
	"catenary/sender"
)

// spoil writes over bytes and all of their spare room.
func spoil(b []byte) {
	for i := range b[:cap(b)] {
		b[:cap(b)][i] = 0xee
	}
}

// spoilAll writes over items, their bytes, and all spare room.
func spoilAll(l []api.Item) {
	for _, one := range l {
		spoil(one.B)
	}
	for i := range l[:cap(l)] {
		l[:cap(l)][i] = api.Item{Seq: 7, B: []byte("x")}
	}
}

// P13.5: what is handed in is only read, its spare room neither written, whether it is put or not.
func TestHandedInIsOnlyRead(t *testing.T) {
	for _, n := range []int{0, 1, 4, 256, 257} {
		memory := bytes.Repeat([]byte{5}, n+8)
		s := made(t, 2, 0)
		for range 3 {
			s.Put(memory[:n])
		}
		spoilAll(s.Fresh())
		spoilAll(s.Again())
		s.Heard(1)
		spoilAll(s.Fresh())
		if !bytes.Equal(memory, bytes.Repeat([]byte{5}, n+8)) {
			t.Errorf("%d bytes: they became %x", n, memory)
		}
	}
}

// P13.5: a message that is handed in is not kept: what becomes of it counts for nothing.
func TestHandedInIsNotKept(t *testing.T) {
	s, p := filled(t, 2, 65535, 0)
	memory := make([]byte, 0, 16)
	for i := range 3 {
		memory = append(memory[:0], message(i)[:3]...)
		put(t, s, memory, p.puts(memory))
		spoil(memory)
		agree(t, s, p)
	}
	drained(t, s, p)
}

// P13.5: what Fresh and Again answer is new memory: whatever becomes of it, and of its spare room, the sender tells the same still, and so do other answers.
func TestAnsweredIsNew(t *testing.T) {
	asks := []func(s *sender.Sender) []api.Item{(*sender.Sender).Fresh, (*sender.Sender).Again, (*sender.Sender).Again}
	for _, n := range []int{1, 3, 4, 6} {
		for at, ask := range asks {
			s, p := filled(t, 4, 65534, n)
			for _, ahead := range asks[:at] {
				ahead(s)
			}
			p.fresh()
			spoilAll(ask(s))
			agree(t, s, p)
			one, other := s.Again(), s.Again()
			spoilAll(one)
			tells(t, other, p.again()...)
			drained(t, s, p)
		}
	}
}

// P13.5: the bytes of one item share no memory with those of another one of the same answer.
func TestItemsAreTheirOwn(t *testing.T) {
	for at := range 3 {
		s, p := filled(t, 3, 9, 3)
		want := p.fresh()
		for _, l := range [][]api.Item{s.Fresh(), s.Again()} {
			spoil(l[at].B)
			for i := range l {
				if i != at && !sameItem(l[i], want[i]) {
					t.Errorf("item %d became %v, as item %d changed", i, l[i], at)
				}
			}
		}
		agree(t, s, p)
	}
}

// P13.5: an answer of before stays as it was, whatever the sender becomes.
func TestAnswersStay(t *testing.T) {
	s, p := filled(t, 3, 65535, 5)
	want := p.fresh()
	fresh, again := s.Fresh(), s.Again()
	for i := range 40 {
		s.Heard(s.Next())
		s.Heard((s.Next() + 1) % round)
		s.Put(message(50 + i))
		s.Fresh()
	}
	tells(t, fresh, want...)
	tells(t, again, want...)
}

// Two senders share nothing, though the same message is put into both.
func TestSendersAreTheirOwn(t *testing.T) {
	one, other := made(t, 2, 5), made(t, 2, 5)
	same := message(3)
	put(t, one, same, api.OK)
	put(t, other, same, api.OK)
	put(t, one, message(4), api.OK)
	spoilAll(one.Fresh())
	hears(t, one, 7, 2, api.OK)
	counts(t, other, 1, 0, 5)
	tells(t, other.Fresh(), item(5, 3))
	counts(t, one, 0, 0, 7)
}
