package order_test

import (
	"slices"
	"testing"

	"catenary/api"
	"catenary/order"
)

// P6.1: the document's own examples.
func TestExamples(t *testing.T) {
	same(t, written(t, api.Order{Kind: api.OrdWipe}), []byte{1})
	same(t, written(t, api.Order{Kind: api.OrdProbe, N: 2, M: 258}), []byte{5, 2, 1, 2})
	same(t, written(t, api.Order{Kind: api.OrdBarrier, N: 5}), []byte{6, 0, 0, 0, 5})
	control := api.Rule{Kind: api.RuleControl, To: 3, Port: 2}
	same(t, written(t, api.Order{Kind: api.OrdAdd, Rule: control}), []byte{2, 2, 0, 0, 3, 2})
	data := api.Rule{
		Kind: api.RuleData, Prio: 9,
		Match: api.Mask{Port: -1, Bits: api.Header{0, 255, 0}, Is: api.Header{0, 5, 0}},
		Outs:  []api.Out{{Port: 2, Set: [3]int{-1, -1, 4}}},
	}
	same(t, written(t, api.Order{Kind: api.OrdAdd, Rule: data}),
		[]byte{2, 1, 0, 9, 0, 0, 0, 0, 0, 255, 0, 0, 5, 0, 1, 2, 0, 0, 0, 0, 0, 5})
}

// P6.1: orders of each kind have just these bytes.
func TestBytes(t *testing.T) {
	for _, c := range samples(t) {
		if e := order.Check(c.o); e != api.OK {
			t.Errorf("%+v: error %d", c.o, e)
		}
		same(t, written(t, c.o), c.b)
	}
}

// P6.1, P6.4: each number at all ends of what may stand anywhere, and past them.
func TestEdges(t *testing.T) {
	edges := append(far, -1, 0, 1, 2, 3, 4, 5, 6, 7, 8, 9, 10, 199, 200, 201, 254, 255, 256, 257, lastShort-1, lastShort, lastShort+1, lastLong-1, lastLong)
	for _, c := range samples(t) {
		changed(c.o, edges, func(o api.Order) { asked(t, o) })
	}
}

// P6.1: numbers that would be the same in the bytes are refused.
func TestNumbersThatComeRound(t *testing.T) {
	for _, c := range samples(t) {
		for place := range places(&c.o) {
			for _, shift := range []int{8, 16, 32} {
				for _, sign := range []int{1, -1} {
					o := twin(c.o)
					*places(&o)[place] += sign << shift
					asked(t, o)
				}
			}
		}
	}
}

// P6.1: there are just nine kinds, and each has its fields alone.
func TestKinds(t *testing.T) {
	for kind := -300; kind <= 300; kind++ {
		for _, c := range samples(t) {
			o := c.o
			o.Kind = kind
			asked(t, o)
		}
		asked(t, api.Order{Kind: kind})
	}
	for _, kind := range far {
		wrong(t, api.Order{Kind: kind})
	}
}

// P6.1: no order has a field of another kind's.
func TestFieldsOfOthers(t *testing.T) {
	for _, c := range samples(t) {
		for _, other := range samples(t) {
			for _, give := range []func(to *api.Order){
				func(to *api.Order) { to.N = other.o.N },
				func(to *api.Order) { to.M = other.o.M },
				func(to *api.Order) { to.Rule = other.o.Rule },
				func(to *api.Order) { to.P = other.o.P },
			} {
				o := c.o
				give(&o)
				asked(t, o)
			}
		}
	}
	for kind := 1; kind <= 9; kind++ {
		if kind != api.OrdAdd && kind != api.OrdDel {
			wrong(t, api.Order{Kind: kind, N: 1, Rule: api.Rule{Outs: make([]api.Out, 1)}})
			wrong(t, api.Order{Kind: kind, N: 1, Rule: api.Rule{Match: api.Mask{Bits: api.Header{0, 0, 1}}}})
		}
		if kind != api.OrdLink {
			wrong(t, api.Order{Kind: kind, N: 1, P: api.Probe{Nonce: 1}})
		}
	}
}

// P6.1: a list of no outputs is as none, where a rule may have outputs, and where not.
func TestEmptyOuts(t *testing.T) {
	for _, c := range samples(t) {
		if len(c.o.Rule.Outs) == 0 {
			o := c.o
			o.Rule.Outs = []api.Out{}
			same(t, written(t, o), c.b)
		}
	}
	for _, r := range []api.Rule{
		{Kind: api.RuleControl, Outs: []api.Out{}},
		{Kind: api.RuleData, Outs: []api.Out{}},
	} {
		if e := order.Rule(r); e != api.OK {
			t.Errorf("%+v: error %d", r, e)
		}
	}
}

// P6.1: an OrdLink tells a probe that was found, no other one.
func TestLinks(t *testing.T) {
	for _, p := range []api.Probe{
		{}, {From: 1, FromPort: 2, Nonce: 258}, {From: 1, FromPort: 2, To: 3, Nonce: 258}, {From: 1, FromPort: 2, ToPort: 4},
		{From: 7, FromPort: 2, To: 3, ToPort: 4}, {FromPort: 2, To: 3, ToPort: 4}, {From: 1, FromPort: 2, To: 3, ToPort: 4, Nonce: lastShort + 1},
	} {
		wrong(t, api.Order{Kind: api.OrdLink, P: p})
	}
	asked(t, api.Order{Kind: api.OrdLink, P: api.Probe{From: 6, FromPort: 4, To: 6, ToPort: 4, Nonce: lastShort}})
	asked(t, api.Order{Kind: api.OrdLink, P: api.Probe{From: 1, FromPort: 1, To: 1, ToPort: 1}})
}

// P6.3: an order that is handed in is only read, its outputs' spare room neither written, nor kept.
func TestOrdersAreOnlyRead(t *testing.T) {
	room := append(dataRule().Outs, dataRule().Outs...)
	was := slices.Clone(room)
	o := api.Order{Kind: 2, Rule: dataRule()}
	o.Rule.Outs = room[:2]
	before := twin(o)
	order.Check(o)
	order.Rule(o.Rule)
	order.Bytes(api.Order{Kind: 1, Rule: o.Rule})
	out := written(t, o)
	want := slices.Clone(out)
	if !slices.Equal(room, was) || unlike(o, before) {
		t.Errorf("it became %+v, with %+v", o, room)
	}
	clear(room)
	same(t, out, want)
}

// P6.3: what is answered is new memory: two answers share nothing.
func TestAnswersShareNothing(t *testing.T) {
	for _, c := range samples(t) {
		first, second := written(t, c.o), written(t, c.o)
		overwrite(first)
		same(t, second, c.b)
		same(t, written(t, c.o), c.b)
	}
}

// P6.4: no two orders have the same bytes, and no order has more than 256.
func TestNoTwoHaveTheSameBytes(t *testing.T) {
	seen := map[string]api.Order{}
	tell := func(o api.Order) {
		if !mayBe(o) {
			return
		}
		b := string(written(t, o))
		if other, is := seen[b]; is && unlike(o, other) {
			t.Errorf("%+v and %+v have the same bytes", o, other)
		}
		seen[b] = o
	}
	for _, c := range samples(t) {
		changed(c.o, []int{-1, 0, 1, 2, 3, 4, 5, 199, 200, 254, 255, 256, lastShort, lastLong}, tell)
	}
	if len(seen) < 100 {
		t.Errorf("but %d were written", len(seen))
	}
}
