package table_test

import (
	"math"
	"slices"
	"testing"

	"catenary/api"
	"catenary/mask"
	"catenary/rule"
	"catenary/table"
)

// P9.1 to P9.4: the document's own examples.
func TestExamples(t *testing.T) {
	tb := made(t, 2)
	errs(t, tb.Add(control(3, 1)), api.OK)
	errs(t, tb.Add(control(3, 2)), api.OK)
	goes(t, tb, 3, 2, true)
	holds(t, tb, control(3, 2))
	seven := data(5, only(1, 255, 7), out(1))
	errs(t, tb.Add(seven), api.OK)
	errs(t, tb.Add(data(6, mask.Any(), out(2))), api.ErrTable)
	errs(t, tb.Del(data(5, only(1, 255, 8))), api.ErrRule)
	tells(t, tb, 0, 1, api.Header{1, 7, 1}, seven, true)
	tells(t, tb, 0, 1, api.Header{1, 8, 1}, api.Rule{}, false)
	counts(t, tb.Loose(mask.Any()), 1)
	holds(t, tb, control(3, 2))
}

// P9.1: a table has room for 0 to 64 rules, and none at first.
func TestNew(t *testing.T) {
	for room := range api.MaxTable + 1 {
		tb := made(t, room)
		holds(t, tb)
		counts(t, tb.Room(), room)
		counts(t, tb.Wipe(), 0)
		counts(t, tb.Loose(mask.Any()), 0)
		goes(t, tb, 0, 0, false)
		tells(t, tb, 0, 0, api.Header{}, api.Rule{}, false)
		errs(t, tb.Del(control(1, 1)), api.ErrRule)
	}
	for _, room := range []int{math.MinInt, -64, -1, 65, 128, 256, math.MaxInt} {
		if tb, e := table.New(room); tb != nil || e != api.ErrArg {
			t.Errorf("room %d: error %d", room, e)
		}
	}
}

// Of a table that is none: ErrNil, ahead of what is wrong with a rule; 0, false, nothing.
func TestNone(t *testing.T) {
	var none *table.Table
	for _, tb := range []*table.Table{none, {}} {
		for range 2 {
			for _, r := range append(wrong(), control(3, 1), data(5, mask.Any())) {
				errs(t, tb.Add(r), api.ErrNil)
				errs(t, tb.Del(r), api.ErrNil)
			}
			counts(t, tb.Loose(mask.Any()), 0)
			counts(t, tb.Wipe(), 0)
			goes(t, tb, 3, 0, false)
			tells(t, tb, 0, 1, api.Header{}, api.Rule{}, false)
			holds(t, tb)
			counts(t, tb.Room(), 0)
		}
	}
}

// P9.1: a rule that comes into the place of another one stands for it, with all it says, whether there is room or not.
func TestAddStandsFor(t *testing.T) {
	one, other := data(5, only(1, 255, 7), out(1), out(2)), data(5, only(1, 255, 7))
	behind := data(4, mask.Any(), out(3))
	for _, room := range []int{4, 64} {
		tb := made(t, room, one, control(3, 1), behind, control(0, 0))
		errs(t, tb.Add(other), api.OK)
		holds(t, tb, other, behind, control(0, 0), control(3, 1))
		errs(t, tb.Add(control(0, 4)), api.OK)
		errs(t, tb.Add(control(3, 0)), api.OK)
		holds(t, tb, other, behind, control(0, 4), control(3, 0))
		errs(t, tb.Add(one), api.OK)
		errs(t, tb.Add(one), api.OK)
		holds(t, tb, one, behind, control(0, 4), control(3, 0))
	}
}

// P9.1, P9.6: a table takes as many rules as it has room for, of whatever kinds, and not one more, till one goes.
func TestAddHasRoom(t *testing.T) {
	rules := pool()
	for room := range api.MaxTable + 1 {
		there := slices.Clone(rules[:room])
		tb := made(t, room, there...)
		slices.SortFunc(there, rule.Compare)
		more := append(slices.Clone(rules[room:]), data(1, mask.Any()), data(2, mask.Any()))
		for _, r := range more {
			errs(t, tb.Add(r), api.ErrTable)
		}
		holds(t, tb, there...)
		if room == 0 {
			continue
		}
		errs(t, tb.Del(there[0]), api.OK)
		errs(t, tb.Add(more[0]), api.OK)
		errs(t, tb.Add(more[1]), api.ErrTable)
		errs(t, tb.Add(there[0]), api.ErrTable)
		counts(t, tb.Len(), room)
		counts(t, tb.Room(), room)
	}
}

// P9.1, P9.5: a rule that may not be is ErrArg, ahead of ErrTable and of ErrRule, and changes nothing.
func TestWrongRules(t *testing.T) {
	there := []api.Rule{data(5, mask.Any(), out(1)), control(3, 1)}
	for _, tb := range []*table.Table{made(t, 0), made(t, 2, there...), made(t, 64, there...)} {
		was := tb.Rules()
		for _, r := range wrong() {
			errs(t, tb.Add(r), api.ErrArg)
			errs(t, tb.Del(r), api.ErrArg)
			holds(t, tb, was...)
		}
	}
}

// P9.1: Del takes what is in a rule's place, whatever that does and wherever it goes out; what is in another place stays.
func TestDel(t *testing.T) {
	rules := pool()[:60]
	for i, r := range rules {
		tb := made(t, 64, rules...)
		like := rule.Copy(r)
		if like.Kind == api.RuleControl {
			like.Port = (like.Port + 1) % 5
		} else {
			like.Outs = []api.Out{out(4), out(4), out(4), out(4)}
		}
		errs(t, tb.Del(like), api.OK)
		left := slices.Delete(slices.Clone(rules), i, i+1)
		slices.SortFunc(left, rule.Compare)
		holds(t, tb, left...)
		errs(t, tb.Del(like), api.ErrRule)
		errs(t, tb.Del(r), api.ErrRule)
		holds(t, tb, left...)
	}
}

// P9.1: rules that differ from one that is there in Prio, or in one part of what they match, are in other places.
func TestDelOtherPlaces(t *testing.T) {
	r := data(5, api.Mask{Ver: 3, Port: 1, Bits: api.Header{15, 255, 1}, Is: api.Header{5, 7, 1}}, out(1))
	tb := made(t, 64, r, control(3, 1))
	others := []api.Rule{r, r, r, r, r, r, control(2, 1), control(4, 1), control(0, 1)}
	others[0].Prio = 4
	others[1].Prio = 6
	others[2].Match.Ver = 0
	others[3].Match.Port = -1
	others[4].Match.Bits[1], others[4].Match.Is[1] = 0, 0
	others[5].Match.Is[2] = 0
	for _, o := range others {
		errs(t, tb.Del(o), api.ErrRule)
	}
	holds(t, tb, r, control(3, 1))
	for _, o := range others {
		errs(t, tb.Add(o), api.OK)
	}
	counts(t, tb.Len(), 2+len(others))
}

// P9.2: just the data rules go whose match a mask covers: not those that it meets, nor those that cover it, nor control rules.
func TestLoose(t *testing.T) {
	rules := pool()[:50]
	slices.SortFunc(rules, rule.Compare)
	masks := matches()
	for _, n := range far {
		masks = append(masks, api.Mask{Ver: n, Port: -1}, api.Mask{Port: n})
	}
	masks = append(masks, api.Mask{Port: -1, Is: api.Header{9, 9, 9}}, api.Mask{Port: -1, Bits: api.Header{0, 255, 0}, Is: api.Header{255, 7, 255}})
	for _, m := range masks {
		var stay []api.Rule
		for _, r := range rules {
			if r.Kind != api.RuleData || !mask.Covers(m, r.Match) {
				stay = append(stay, r)
			}
		}
		tb := made(t, 64, rules...)
		counts(t, tb.Loose(m), len(rules)-len(stay))
		holds(t, tb, stay...)
		counts(t, tb.Loose(m), 0)
		holds(t, tb, stay...)
	}
}

// P9.2: what covers: less said is covered by nothing that says more.
func TestLooseByVersion(t *testing.T) {
	third, seven := data(5, api.Mask{Ver: 3, Port: -1}), data(6, only(1, 255, 7))
	both := data(7, api.Mask{Ver: 3, Port: -1, Bits: api.Header{0, 255, 0}, Is: api.Header{0, 7, 0}})
	fourth := data(5, api.Mask{Ver: 4, Port: -1})
	tb := made(t, 8, third, seven, both, fourth, control(1, 1))
	counts(t, tb.Loose(both.Match), 1)
	holds(t, tb, seven, third, fourth, control(1, 1))
	counts(t, tb.Loose(api.Mask{Ver: 3, Port: -1}), 1)
	holds(t, tb, seven, fourth, control(1, 1))
	counts(t, tb.Loose(api.Mask{}), 0) // a zero mask fits the port 0 alone
	counts(t, tb.Loose(mask.Any()), 2)
	holds(t, tb, control(1, 1))
}

// P9.2: all go, control rules with them; there is the same room as before.
func TestWipe(t *testing.T) {
	rules := pool()
	for n := range api.MaxTable + 1 {
		tb := made(t, api.MaxTable, rules[:n]...)
		counts(t, tb.Wipe(), n)
		holds(t, tb)
		counts(t, tb.Wipe(), 0)
		counts(t, tb.Room(), api.MaxTable)
		errs(t, tb.Add(rules[0]), api.OK)
		holds(t, tb, rules[0])
	}
	small := made(t, 1, rules[0])
	small.Wipe()
	errs(t, small.Add(rules[1]), api.OK)
	errs(t, small.Add(rules[2]), api.ErrTable)
}
