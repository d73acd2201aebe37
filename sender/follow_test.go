package sender_test

import (
	"slices"
	"testing"

	"catenary/api"
)

// P13.1 to P13.5: a long row of calls, whatever they are, answers what a plain sender answers; an error changes nothing.
func TestLongRows(t *testing.T) {
	c := chance(13)
	for window := 1; window <= 4; window++ {
		for _, first := range firsts {
			s, p := filled(t, window, first, 0)
			for step := range 2000 {
				switch c.below(8) {
				case 0, 1, 2:
					put(t, s, message(step), p.puts(message(step)))
				case 3, 4:
					tells(t, s.Fresh(), p.fresh()...)
				case 5, 6:
					ack := (p.number(p.heard) + c.below(window+4) - 2 + round) % round
					n, e := p.hears(ack)
					hears(t, s, ack, n, e)
				case 7:
					long := make([]byte, 257*c.below(2))
					put(t, s, long, p.puts(long))
				}
				agree(t, s, p)
				if t.Failed() {
					t.Fatalf("window %d, first %d, step %d", window, first, step)
				}
			}
			if p.heard < 50 {
				t.Errorf("window %d, first %d: only %d were heard", window, first, p.heard)
			}
			drained(t, s, p)
		}
	}
}

// P13.6, P13.7: Fresh tells each message once, in the order in which they were put, with numbers that rise by one, round and round; never more than the window are said and not heard; Again tells what Fresh told, and was not heard.
func TestEachOnce(t *testing.T) {
	c := chance(6)
	for window := 1; window <= 4; window++ {
		const first = 65530
		s := made(t, window, first)
		puts := 0
		var fresh, heard []api.Item
		for len(heard) < 15000 {
			for range c.below(6) {
				if s.Put(message(puts)) == api.OK {
					puts++
				}
			}
			fresh = append(fresh, s.Fresh()...)
			under := fresh[len(heard):]
			if len(under) > window || s.Said() != len(under) {
				t.Fatalf("window %d: %d were said and not heard, said tells %d", window, len(under), s.Said())
			}
			tells(t, s.Again(), under...)
			n := c.below(len(under) + 1)
			hears(t, s, (first+len(heard)+n)%round, n, api.OK)
			heard = append(heard, under[:n]...)
			tells(t, s.Again(), fresh[len(heard):]...)
			if t.Failed() {
				t.Fatalf("window %d, behind %d that were heard", window, len(heard))
			}
		}
		for i := range fresh {
			if !sameItem(fresh[i], item((first+i)%round, i)) {
				t.Fatalf("window %d: message %d was told as %v", window, i, fresh[i])
			}
		}
		if puts != len(fresh)+s.Left()-s.Said() {
			t.Errorf("window %d: %d were put, %d told, %d wait", window, puts, len(fresh), s.Left()-s.Said())
		}
	}
}

// P13.6: however many messages wait, whatever is asked, and however often, without one that is heard no more than the window are said.
func TestNeverMoreThanTheWindow(t *testing.T) {
	for window := 1; window <= 4; window++ {
		s := made(t, window, 65535)
		var fresh []api.Item
		for i := range 600 {
			s.Put(message(i))
			fresh = slices.Concat(fresh, s.Fresh(), s.Fresh())
			s.Heard(65535)
			s.Heard(window)
			s.Again()
		}
		if len(fresh) != window || s.Said() != window || s.Left() != 512 {
			t.Errorf("window %d: %d were told, %d said, %d left", window, len(fresh), s.Said(), s.Left())
		}
	}
}
