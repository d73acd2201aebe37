package inbox_test

import (
	"slices"
	"testing"

	"catenary/api"
)

// P14.2, P14.3: each row of six messages, of those about the first ones, answers what a plain inbox answers.
func TestAllShortRows(t *testing.T) {
	const length, places = 6, 7
	for _, first := range []int{0, 32766, 65533} {
		for row := range places * places * places * places * places * places {
			x, p := both(t, first)
			for i, rest := 0, row; i < length; i, rest = i+1, rest/places {
				comes(t, x, p, message{rest%places - 1, i})
			}
			if t.Failed() {
				t.Fatalf("first %d, row %d", first, row)
			}
		}
	}
}

// P14.2 to P14.4: a long row of messages, some of which are outside, answers what a plain inbox answers.
func TestLongRows(t *testing.T) {
	c := chance(14)
	for _, first := range firsts {
		x, p := both(t, first)
		for step := range 5000 {
			if c.below(10) == 0 {
				takes(t, x, outside[c.below(len(outside))], message{p.told, step}, api.ErrArg)
			}
			comes(t, x, p, message{p.told + c.below(10) - 3, step})
			if t.Failed() {
				t.Fatalf("first %d, step %d", first, step)
			}
		}
		if p.told < 500 {
			t.Errorf("first %d: only %d were told", first, p.told)
		}
		drained(t, x, p)
	}
}

// isBeginning fails unless what is told behind so many messages is those that come next, one by one.
func isBeginning(t *testing.T, told []int, from int) {
	t.Helper()
	for i, place := range told {
		if place != from+i {
			t.Fatalf("behind %d messages %v were told", from, told)
		}
	}
}

// P14.5: whatever comes, in whichever order, however often, if those that come with a number say the same (here the number): what is told rises one by one, also where the numbers go round.
func TestBeginning(t *testing.T) {
	const first, all = 65000, 3 * round
	x, c := made[int](t, first), chance(5)
	for told := 0; told < all; {
		seq := c.below(round)
		if c.below(8) > 0 {
			seq = (x.Ack() + round - 5 + c.below(11)) % round
		}
		out, _ := x.Take(seq, seq)
		for _, said := range out {
			if said != (first+told)%round {
				t.Fatalf("behind %d messages %v were told", told, out)
			}
			told++
		}
		counts(t, x, (first+told)%round, x.Waits())
	}
}

// P14.5: of copies that are under way in a window of four, and come late, often, or never, each message is told once, in order, further than the numbers go round.
func TestUnderWay(t *testing.T) {
	const first, all, most = 40000, 2 * round, 12
	x, c := made[int](t, first), chance(7)
	var way []int
	for told := 0; told < all; {
		for len(way) < most {
			way = append(way, told+c.below(4))
		}
		i := c.below(len(way))
		place := way[i]
		if c.below(3) > 0 {
			way = slices.Delete(way, i, i+1)
		}
		if c.below(5) == 0 {
			continue
		}
		out, e := x.Take((first+place)%round, place)
		if place < told && e != api.ErrRange {
			t.Fatalf("%d came again behind %d: error %d; asked for %d", place, told, e, api.ErrRange)
		}
		isBeginning(t, out, told)
		told += len(out)
	}
}

// P14.6: if some copy comes of each message, not more than 3 ahead of the first one that did not, all are told, in whichever order they come, and whatever else comes.
func TestAllAreTold(t *testing.T) {
	c := chance(6)
	for _, first := range firsts {
		x := made[int](t, first)
		const all = 2000
		var come [all + 4]bool
		told, missing := 0, 0
		for missing < all {
			place := missing + c.below(4)
			if c.below(4) == 0 {
				place = max(0, missing-c.below(30))
			}
			if c.below(9) == 0 {
				x.Take((first+missing+4+c.below(1000))%round, -1)
			}
			come[place] = true
			out, _ := x.Take((first+place)%round, place)
			isBeginning(t, out, told)
			told += len(out)
			for missing < all && come[missing] {
				missing++
			}
			if told < missing {
				t.Fatalf("first %d: %d have come, %d were told", first, missing, told)
			}
		}
	}
}

// P14.6: each order of four messages tells all of them, whichever comes first.
func TestOrdersOfFour(t *testing.T) {
	for _, first := range firsts {
		for row := range 4 * 4 * 4 * 4 {
			x, told, come := made[int](t, first), 0, 0
			for i := 0; i < 8; i += 2 {
				place := row >> i & 3
				come |= 1 << place
				out, _ := x.Take((first+place)%round, place)
				isBeginning(t, out, told)
				told += len(out)
			}
			if come == 15 && (told != 4 || x.Waits() != 0) {
				t.Fatalf("first %d, row %04x: %d were told, %d wait", first, row, told, x.Waits())
			}
		}
	}
}

// P14.2, P14.3: there are never more than three that wait, whatever comes.
func TestNeverMoreThanThreeWait(t *testing.T) {
	x := made[int](t, 65533)
	for again := range 3 {
		for seq := range round {
			if seq != 65533 {
				x.Take(seq, again)
			}
			if x.Waits() > 3 {
				t.Fatalf("%d wait", x.Waits())
			}
		}
	}
	counts(t, x, 65533, 3)
	takes(t, x, 65533, 9, api.OK, 9, 0, 0, 0)
}
