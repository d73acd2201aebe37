package sender_test

import (
	"bytes"
	"slices"
	"testing"

	"catenary/api"
	"catenary/sender"
)

// P13.1 to P13.4: the document's own examples.
func TestExamples(t *testing.T) {
	a, b, c := []byte("a"), []byte("b"), []byte("c")
	s := made(t, 2, 65535)
	put(t, s, a, api.OK)
	put(t, s, b, api.OK)
	put(t, s, c, api.OK)
	tells(t, s.Fresh(), api.Item{Seq: 65535, B: a}, api.Item{Seq: 0, B: b})
	tells(t, s.Fresh())
	hears(t, s, 0, 1, api.OK)
	tells(t, s.Fresh(), api.Item{Seq: 1, B: c})
	tells(t, s.Again(), api.Item{Seq: 0, B: b}, api.Item{Seq: 1, B: c})
	hears(t, s, 3, 0, api.ErrRange)
	hears(t, s, 2, 2, api.OK)
	counts(t, s, 0, 0, 2)
}

// P13.1: a window is from 1 to 4, a first number from 0 to 65535; either of them that may not be is refused, beside whatever the other one is.
func TestNew(t *testing.T) {
	windows := slices.Concat(below0, []int{0, 5, 6, 255, 256, 257, 260}, far)
	outside := slices.Concat(below0, far)
	for _, window := range windows {
		for _, first := range slices.Concat(firsts, outside) {
			refused(t, window, first)
		}
	}
	for window := 1; window <= 4; window++ {
		for _, first := range outside {
			refused(t, window, first)
		}
		for first := range round {
			counts(t, made(t, window, first), 0, 0, first)
		}
		for _, first := range firsts {
			s, p := filled(t, window, first, 0)
			agree(t, s, p)
			tells(t, s.Fresh())
			agree(t, s, p)
			hears(t, s, first, 0, api.OK)
			agree(t, s, p)
		}
	}
}

// P13.1: a message has from 1 to 256 bytes; one that is too short or too long is told so, and changes nothing.
func TestPutLengths(t *testing.T) {
	for _, n := range []int{0, 1, 2, 3, 127, 128, 254, 255, 256, 257, 258, 511, 512, 513, 1024, 65536, 65536 + 5, 1 << 20} {
		s, p := filled(t, 2, 65535, 1)
		b := bytes.Repeat([]byte{7}, n)
		for range 3 {
			put(t, s, b, p.puts(b))
			agree(t, s, p)
		}
		drained(t, s, p)
	}
	for _, none := range [][]byte{nil, {}, make([]byte, 0, 4)} {
		s := made(t, 1, 0)
		put(t, s, none, api.ErrArg)
		counts(t, s, 0, 0, 0)
	}
}

// P13.1: there are 512 messages at most, those that were said among them; for each one that is heard there is room for one more.
func TestPutFull(t *testing.T) {
	for window := 1; window <= 4; window++ {
		s, p := filled(t, window, 65300, 512)
		counts(t, s, 512, 0, 65300)
		for i := range 300 {
			put(t, s, message(1), api.ErrFull)
			put(t, s, nil, api.ErrArg)
			put(t, s, make([]byte, 257), api.ErrArg)
			tells(t, s.Fresh(), p.fresh()...)
			put(t, s, message(1), api.ErrFull)
			agree(t, s, p)
			n := 1 + i%window
			ack := p.number(p.heard + n)
			p.hears(ack)
			hears(t, s, ack, n, api.OK)
			agree(t, s, p)
			for j := range n {
				put(t, s, message(600+4*i+j), api.OK)
				p.puts(message(600 + 4*i + j))
			}
			agree(t, s, p)
		}
		drained(t, s, p)
	}
}

// hearOne lets one more message be said, if it was not, and heard.
func hearOne(t *testing.T, s *sender.Sender, p *plain) {
	t.Helper()
	tells(t, s.Fresh(), p.fresh()...)
	ack := p.number(p.heard + 1)
	p.hears(ack)
	hears(t, s, ack, 1, api.OK)
}

// limited is a sender that was handed 20000 messages, of which so many are left, and a plain one that is the same.
func limited(t *testing.T, left int) (*sender.Sender, *plain) {
	t.Helper()
	s, p := filled(t, 4, 60000, 0)
	for i := range 20000 {
		if len(p.put)-p.heard == max(left, 1) {
			hearOne(t, s, p)
		}
		put(t, s, nil, api.ErrArg)
		put(t, s, message(i), api.OK)
		p.puts(message(i))
		if t.Failed() {
			t.FailNow()
		}
	}
	if left == 0 {
		hearOne(t, s, p)
	}
	return s, p
}

// P13.1: 20000 messages are taken, whatever was refused beside them, and not one more, whether there is room or not; those that are left go on.
func TestPutLimit(t *testing.T) {
	for _, left := range []int{0, 1, 4, 511, 512} {
		s, p := limited(t, left)
		for range 3 {
			counts(t, s, left, p.told-p.heard, p.number(p.heard))
			put(t, s, message(1), api.ErrLimit)
			put(t, s, nil, api.ErrArg)
			put(t, s, make([]byte, 257), api.ErrArg)
			agree(t, s, p)
		}
		drained(t, s, p)
		put(t, s, message(1), api.ErrLimit)
		counts(t, s, 0, 0, (60000+20000)%round)
	}
}

// P13.1: what was refused, as there was no room, counts for nothing of the 20000.
func TestRefusedIsNotHandedIn(t *testing.T) {
	s, p := filled(t, 1, 0, 512)
	for range 30000 {
		put(t, s, message(1), api.ErrFull)
		put(t, s, nil, api.ErrArg)
	}
	agree(t, s, p)
	drained(t, s, p)
	put(t, s, message(2), api.OK)
	tells(t, s.Fresh(), item(512, 2))
}

// P13.2: of any number of messages those in the window are fresh, once; Again tells them as often as it is asked, and nothing ahead of that.
func TestFreshAndAgain(t *testing.T) {
	for window := 1; window <= 4; window++ {
		for _, first := range firsts {
			for n := range 10 {
				s, p := filled(t, window, first, n)
				tells(t, s.Again())
				agree(t, s, p)
				var want []api.Item
				for i := range min(n, window) {
					want = append(want, item((first+i)%round, i))
				}
				tells(t, s.Fresh(), want...)
				p.fresh()
				for range 3 {
					tells(t, s.Again(), want...)
					tells(t, s.Fresh())
					agree(t, s, p)
				}
				drained(t, s, p)
			}
		}
	}
}

// P13.2: a message that comes where there is room in the window is fresh alone; one that comes behind the window is not, till one is heard.
func TestFreshOneByOne(t *testing.T) {
	s := made(t, 3, 65534)
	for i, seq := range []int{65534, 65535, 0} {
		put(t, s, message(i), api.OK)
		counts(t, s, i+1, i, 65534)
		tells(t, s.Fresh(), item(seq, i))
		counts(t, s, i+1, i+1, 65534)
	}
	for i := 3; i < 8; i++ {
		put(t, s, message(i), api.OK)
		tells(t, s.Fresh())
		counts(t, s, i+1, 3, 65534)
	}
	hears(t, s, 65534, 0, api.OK)
	tells(t, s.Fresh())
	hears(t, s, 65535, 1, api.OK)
	tells(t, s.Again(), item(65535, 1), item(0, 2))
	tells(t, s.Fresh(), item(1, 3))
	hears(t, s, 2, 3, api.OK)
	tells(t, s.Again())
	tells(t, s.Fresh(), item(2, 4), item(3, 5), item(4, 6))
	tells(t, s.Again(), item(2, 4), item(3, 5), item(4, 6))
}

// states calls f with senders of all windows, many first numbers, none to 4 messages that were said, and some that were not, behind some that were heard; f makes the same one as often as it wants.
func states(t *testing.T, f func(made func() (*sender.Sender, *plain))) {
	t.Helper()
	for window := 1; window <= 4; window++ {
		for _, first := range firsts {
			for _, heard := range []int{0, 1, 5} {
				for said := range window + 1 {
					for more := range 2 {
						f(func() (*sender.Sender, *plain) {
							return state(t, window, first, heard, said, more)
						})
					}
				}
			}
		}
	}
}

// state is a sender of which so many messages were heard, others said, and others neither, and a plain one that is the same.
func state(t *testing.T, window, first, heard, said, more int) (*sender.Sender, *plain) {
	t.Helper()
	s, p := filled(t, window, first, 0)
	for i := range heard + said {
		put(t, s, message(i), p.puts(message(i)))
		tells(t, s.Fresh(), p.fresh()...)
		if i < heard {
			ack := p.number(i + 1)
			n, e := p.hears(ack)
			hears(t, s, ack, n, e)
		}
	}
	for i := range more {
		put(t, s, message(100+i), p.puts(message(100+i)))
	}
	counts(t, s, said+more, said, (first+heard)%round)
	return s, p
}

// P13.3: the next number, and those behind the messages that were said, are heard, as many messages as are ahead of them; no others are, also if they are not said yet.
func TestHeard(t *testing.T) {
	states(t, func(made func() (*sender.Sender, *plain)) {
		_, p := made()
		for n := -6; n <= 6; n++ {
			ack := (p.number(p.heard) + n + round) % round
			s, p := made()
			said := p.told - p.heard
			if n < 0 || n > said {
				hears(t, s, ack, 0, api.ErrRange)
			} else {
				hears(t, s, ack, n, api.OK)
				p.hears(ack)
			}
			agree(t, s, p)
			tells(t, s.Fresh(), p.fresh()...)
			drained(t, s, p)
		}
		if t.Failed() {
			t.FailNow()
		}
	})
}

// P13.3: a number that no message has is ErrRange, also if it is the right one but for multiples of 65536, and changes nothing.
func TestHeardOutside(t *testing.T) {
	states(t, func(made func() (*sender.Sender, *plain)) {
		s, p := made()
		next := p.number(p.heard)
		outside := slices.Concat(below0, far)
		for n := range 6 {
			outside = append(outside, next+n+round, next+n-2*round, next+n+1<<32, next+n-1<<32)
		}
		for _, ack := range outside {
			hears(t, s, ack, 0, api.ErrRange)
		}
		agree(t, s, p)
		drained(t, s, p)
	})
}

// P13.3: of all numbers that there are just the next one, and those behind the messages that were said, are heard.
func TestHeardOfAllNumbers(t *testing.T) {
	for window := 1; window <= 4; window++ {
		for _, first := range firsts {
			s, p := state(t, window, first, 0, window, 1)
			for far := window + 1; far < round; far++ {
				hears(t, s, (first+far)%round, 0, api.ErrRange)
			}
			agree(t, s, p)
			for n := range window + 1 {
				hears(t, s, (first+n)%round, min(n, 1), api.OK)
			}
			counts(t, s, 1, 0, (first+window)%round)
			tells(t, s.Fresh(), item((first+window)%round, 100))
		}
	}
}

// P13.3: what was heard once is not heard again: its number is ErrRange then, but the next one, which says nothing new.
func TestHeardTwice(t *testing.T) {
	s, p := filled(t, 4, 65533, 6)
	tells(t, s.Fresh(), p.fresh()...)
	hears(t, s, 0, 3, api.OK)
	p.hears(0)
	for range 3 {
		hears(t, s, 0, 0, api.OK)
		for _, ack := range []int{65532, 65533, 65534, 65535, 2, 3} {
			hears(t, s, ack, 0, api.ErrRange)
		}
		agree(t, s, p)
	}
	drained(t, s, p)
}

// P13.4: what is asked changes nothing.
func TestAskedAgain(t *testing.T) {
	states(t, func(made func() (*sender.Sender, *plain)) {
		s, p := made()
		for range 3 {
			agree(t, s, p)
		}
		tells(t, s.Fresh(), p.fresh()...)
	})
}

// Of a sender that is none: ErrNil, ahead of what is wrong with an argument; nothing, 0.
func TestNone(t *testing.T) {
	var none *sender.Sender
	for _, s := range []*sender.Sender{none, {}} {
		for range 2 {
			for _, n := range []int{0, 1, 256, 257} {
				put(t, s, make([]byte, n), api.ErrNil)
			}
			for _, ack := range slices.Concat(below0, firsts, far) {
				hears(t, s, ack, 0, api.ErrNil)
			}
			tells(t, s.Fresh())
			tells(t, s.Again())
			counts(t, s, 0, 0, 0)
		}
	}
}
