package rule_test

import (
	"slices"
	"testing"

	"catenary/api"
	"catenary/order"
	"catenary/rule"
)

// P8.1, P8.2: the document's own examples.
func TestExamples(t *testing.T) {
	compares(t, data(0), api.Rule{Kind: api.RuleControl}, -1)
	compares(t, data(3), data(4), 1)
	compares(t, api.Rule{Kind: api.RuleControl, To: 1}, api.Rule{Kind: api.RuleControl, To: 2}, -1)
	a, b := data(3, out(1, -1, -1, -1)), data(3, out(2, -1, -1, -1))
	compares(t, a, b, 0)
	same(t, a, b, false)
	three := data(0, out(2, -1, -1, -1), out(3, -1, 9, -1), out(2, -1, 6, -1))
	does(t, three, api.Header{5, 6, 7}, api.Sent{Port: 2, H: api.Header{5, 6, 7}}, api.Sent{Port: 3, H: api.Header{5, 9, 7}})
}

// P8.1: a rule may be, or may not be, by its numbers, its bytes, and how many outputs it has.
func TestCheck(t *testing.T) {
	for _, r := range []api.Rule{full(), data(0), data(65535), {Kind: 2}, {Kind: 2, To: 6, Port: 4}, data(1, make([]api.Out, 8)...)} {
		if e := rule.Check(r); e != api.OK {
			t.Errorf("%+v: error %d", r, e)
		}
	}
	control := api.Rule{Kind: 2, To: 3, Port: 2}
	wrong := []api.Rule{
		{}, {Kind: 3}, {Kind: -1}, {Kind: 1, To: 1}, {Kind: 1, Port: 1}, {Kind: 2, Prio: 1},
		{Kind: 2, To: 7}, {Kind: 2, To: -1}, {Kind: 2, Port: 5}, {Kind: 2, Port: -1},
		{Kind: 2, Match: api.Mask{Port: -1}}, {Kind: 2, Outs: make([]api.Out, 1)},
		data(-1), data(65536), data(1, make([]api.Out, 9)...),
		data(1, out(5, -1, -1, -1)), data(1, out(1, 256, -1, -1)), data(1, out(1, -1, -2, -1)),
		{Kind: 1, Match: api.Mask{Ver: 201}}, {Kind: 1, Match: api.Mask{Port: 5}}, {Kind: 1, Match: api.Mask{Is: api.Header{1}}},
	}
	for _, r := range wrong {
		if e := rule.Check(r); e != api.ErrArg {
			t.Errorf("%+v: error %d", r, e)
		}
	}
	for _, r := range append(rules(), control, full()) {
		changed(r, func(r api.Rule) {
			if got, want := rule.Check(r), order.Rule(r); got != want {
				t.Errorf("%+v: error %d; asked for %d", r, got, want)
			}
		})
	}
}

// P8.1: rules are the same if all is, each number, each byte, each output in its place.
func TestSame(t *testing.T) {
	for _, r := range append(rules(), full()) {
		same(t, r, own(r), true)
		changed(r, func(other api.Rule) { same(t, r, other, plainSame(r, other)) })
	}
	l := rules()
	for _, a := range l {
		for _, b := range l {
			same(t, a, b, plainSame(a, b))
		}
	}
}

// P8.1: rules with more outputs, fewer, or the same ones in another order are others; no outputs are as good as none.
func TestSameOutputs(t *testing.T) {
	one, two := out(1, -1, -1, -1), out(2, -1, -1, -1)
	lists := [][]api.Out{{}, {one}, {two}, {one, one}, {one, two}, {two, one}, {one, two, one}, {{}}}
	for i, a := range lists {
		for k, b := range lists {
			same(t, data(1, a...), data(1, b...), i == k)
		}
	}
	none, empty := data(1), data(1)
	none.Outs, empty.Outs = nil, make([]api.Out, 0, 3)
	same(t, none, empty, true)
}

// P8.1: a copy is the same, of whatever rule.
func TestCopy(t *testing.T) {
	copies := func(r api.Rule) {
		if c := rule.Copy(r); !plainSame(c, r) {
			t.Errorf("%+v: copied %+v", r, c)
		}
	}
	for _, r := range append(rules(), full()) {
		copies(r)
		changed(r, copies)
	}
	copies(data(1, make([]api.Out, 300)...))
}

// P8.3: a copy has memory of its own: neither sees what becomes of the other one.
func TestCopyIsNew(t *testing.T) {
	r := full()
	room := append(r.Outs, out(3, 3, 3, 3))
	r.Outs = room[:2]
	c, again := rule.Copy(r), rule.Copy(r)
	c.Outs[0].Set[1] = 77
	_ = append(c.Outs[:1], out(9, 9, 9, 9), out(9, 9, 9, 9))
	if !plainSame(r, full()) || !plainSame(again, full()) || room[2] != out(3, 3, 3, 3) {
		t.Errorf("it became %+v, the other copy %+v, what lies behind %+v", r, again, room[2])
	}
	r.Outs[1].Port = 1
	if !plainSame(again, full()) {
		t.Errorf("the copy became %+v", again)
	}
}

// P8.3: what is handed in is only read, its spare room neither; asked again, each call answers the same.
func TestOnlyRead(t *testing.T) {
	roomy := func() api.Rule {
		r := full()
		r.Outs = append(r.Outs, out(3, 3, 3, 3))[:2]
		return r
	}
	a, b := roomy(), roomy()
	h := api.Header{5, 6, 7}
	for range 3 {
		rule.Check(a)
		compares(t, a, b, 0)
		same(t, a, b, true)
		rule.Copy(a)
		does(t, a, h, plainDoes(full(), h)...)
	}
	for _, r := range []api.Rule{a, b} {
		if !plainSame(r, full()) || !slices.Equal(r.Outs[:3], append(full().Outs, out(3, 3, 3, 3))) {
			t.Errorf("it became %+v", r)
		}
	}
}
