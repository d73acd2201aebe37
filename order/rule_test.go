package order_test

import (
	"slices"
	"testing"

	"catenary/api"
	"catenary/order"
)

// matches fails unless Match says of a match what the document says.
func matches(t *testing.T, m api.Mask) {
	t.Helper()
	want := api.ErrArg
	if matchMayBe(m) {
		want = api.OK
	}
	if e := order.Match(m); e != want {
		t.Errorf("%+v: error %d, asked for %d", m, e, want)
	}
}

// rules fails unless Rule says of a rule what the document says, and orders of it may be likewise.
func rules(t *testing.T, r api.Rule) {
	t.Helper()
	want := api.ErrArg
	if ruleMayBe(r) {
		want = api.OK
	}
	if e := order.Rule(r); e != want {
		t.Errorf("%+v: error %d, asked for %d", r, e, want)
	}
	asked(t, api.Order{Kind: api.OrdAdd, Rule: r})
	asked(t, api.Order{Kind: api.OrdDel, Rule: r})
}

// P6.1: all versions and ports of a match, up to the last ones that may be and past them.
func TestMatches(t *testing.T) {
	for ver := -3; ver <= 260; ver++ {
		for port := -3; port <= 7; port++ {
			matches(t, api.Mask{Ver: ver, Port: port})
		}
	}
	for _, n := range far {
		matches(t, api.Mask{Ver: n})
		matches(t, api.Mask{Port: n})
	}
}

// P6.1: no bit is set of what a header is that does not count.
func TestBitsThatDoNotCount(t *testing.T) {
	for field := range 3 {
		for bits := range 256 {
			for is := range 256 {
				var m api.Mask
				m.Bits[field], m.Is[field] = uint8(bits), uint8(is)
				matches(t, m)
			}
		}
	}
	for count := range 3 {
		for field := range 3 {
			var m api.Mask
			m.Bits[count], m.Is[field] = 255, 255
			matches(t, m)
			rules(t, api.Rule{Kind: api.RuleData, Match: m})
		}
	}
}

// P6.1: each number of a rule of either kind, at its ends and past them.
func TestRules(t *testing.T) {
	l := []api.Rule{dataRule(), {}, {Kind: api.RuleData}, {Kind: api.RuleControl}, {Kind: api.RuleControl, To: 3, Port: 2}}
	numbers := append(far, -1, 0, 1, 2, 3, 4, 5, 6, 7, 8, 200, 201, 255, 256, lastShort, lastShort+1)
	for _, r := range l {
		changed(api.Order{Rule: r}, numbers, func(o api.Order) { rules(t, o.Rule) })
	}
}

// P6.1: a rule has what its kind has, and nothing of the other one.
func TestRulesOfTheOtherKind(t *testing.T) {
	for _, r := range []api.Rule{
		{Kind: api.RuleControl, Prio: 1},
		{Kind: api.RuleControl, Match: api.Mask{Port: -1}},
		{Kind: api.RuleControl, Match: api.Mask{Ver: 1}},
		{Kind: api.RuleControl, Match: api.Mask{Bits: api.Header{0, 1, 0}}},
		{Kind: api.RuleControl, Outs: make([]api.Out, 1)},
		{Kind: api.RuleData, To: 1},
		{Kind: api.RuleData, Port: 1},
		{Kind: 3}, {Kind: -1}, {Kind: 257}, {},
	} {
		if e := order.Rule(r); e != api.ErrArg {
			t.Errorf("%+v: error %d", r, e)
		}
		rules(t, r)
	}
}

// P6.1, P6.4: a rule has 8 outputs at most, all of which may be so.
func TestOutputs(t *testing.T) {
	for n := range 20 {
		outs := slices.Repeat([]api.Out{{Port: 3, Set: [3]int{-1, 255, 7}}}, n)
		r := dataRule()
		r.Outs = outs
		rules(t, r)
		for i := range outs {
			for _, port := range []int{-1, 0, 4, 5} {
				r.Outs = slices.Clone(outs)
				r.Outs[i].Port = port
				rules(t, r)
			}
			for field := range 3 {
				for _, becomes := range []int{-2, -1, 0, 254, 255, 256} {
					r.Outs = slices.Clone(outs)
					r.Outs[i].Set[field] = becomes
					rules(t, r)
				}
			}
		}
	}
	for _, n := range []int{255, 256, 257, 1000, 70000} {
		wrong(t, api.Order{Kind: 2, Rule: api.Rule{Kind: api.RuleData, Outs: make([]api.Out, n)}})
	}
}

// P6.3: a rule that is asked about is only read.
func TestRulesAreOnlyRead(t *testing.T) {
	r, was := dataRule(), dataRule()
	order.Rule(r)
	r.Outs[1].Port = 9
	order.Rule(r)
	was.Outs[1].Port = 9
	if unlike(api.Order{Rule: r}, api.Order{Rule: was}) {
		t.Errorf("it became %+v", r)
	}
}
