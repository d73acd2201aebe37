package rule_test

import (
	"slices"
	"testing"

	"catenary/api"
	"catenary/rule"
)

// headers are some at the ends of all bytes, and between.
var headers = []api.Header{{}, {5, 6, 7}, {5, 9, 7}, {255, 255, 255}, {0, 128, 255}, {1, 2, 3}}

// P8.2: a rule without outputs does nothing; a rule that is no RuleData neither, whatever its outputs are.
func TestDoesNothing(t *testing.T) {
	for _, h := range headers {
		does(t, data(1), h)
		for _, kind := range append(far, 0, 2, 3) {
			r := full()
			r.Kind = kind
			does(t, r, h)
			does(t, api.Rule{Kind: kind, To: 3, Port: 2}, h)
		}
	}
}

// P8.2: it does what it does whatever it matches, and whatever its Prio is: that is not asked here.
func TestDoesWhateverItMatches(t *testing.T) {
	h := api.Header{5, 6, 7}
	r := data(1, out(2, -1, 9, -1))
	want := api.Sent{Port: 2, H: api.Header{5, 9, 7}}
	changed(api.Rule{Match: r.Match}, func(other api.Rule) {
		other.Kind, other.Outs = api.RuleData, r.Outs
		does(t, other, h, want)
	})
}

// P8.2: each field becomes what its Set says, modulo 256, unless that is -1.
func TestDoesSet(t *testing.T) {
	for _, h := range headers {
		for field := range 3 {
			for n := -600; n <= 600; n++ {
				o := out(3, -1, -1, -1)
				o.Set[field] = n
				want := api.Sent{Port: 3, H: h}
				if n != -1 {
					want.H[field] = uint8((n + 1024) % 256)
				}
				does(t, data(1, o), h, want)
			}
			for _, n := range far {
				o := out(3, 1, 2, 3)
				o.Set[field] = n
				does(t, data(1, o), h, plainDoes(data(1, o), h)...)
			}
		}
	}
}

// P8.2: outputs count by themselves: none sees what one ahead made of the header; they go out in their order, by whatever ports.
func TestDoesInOrder(t *testing.T) {
	r := data(1, out(4, 9, -1, -1), out(1, -1, 9, -1), out(0, -1, -1, 9), out(-7, -1, -1, -1), out(1<<40, 0, 0, 0))
	does(t, r, api.Header{5, 6, 7},
		api.Sent{Port: 4, H: api.Header{9, 6, 7}}, api.Sent{Port: 1, H: api.Header{5, 9, 7}}, api.Sent{Port: 0, H: api.Header{5, 6, 9}},
		api.Sent{Port: -7, H: api.Header{5, 6, 7}}, api.Sent{Port: 1 << 40, H: api.Header{}})
	slices.Reverse(r.Outs)
	does(t, r, api.Header{5, 6, 7},
		api.Sent{Port: 1 << 40, H: api.Header{}}, api.Sent{Port: -7, H: api.Header{5, 6, 7}},
		api.Sent{Port: 0, H: api.Header{5, 6, 9}}, api.Sent{Port: 1, H: api.Header{5, 9, 7}}, api.Sent{Port: 4, H: api.Header{9, 6, 7}})
}

// P8.2: what is the same as one ahead is left out, wherever that stands: the same port and the same header, whichever way it became so.
func TestDoesEachOnce(t *testing.T) {
	h := api.Header{5, 6, 7}
	at := func(port int, h api.Header) api.Sent { return api.Sent{Port: port, H: h} }
	stay := out(2, -1, -1, -1)
	does(t, data(1, stay, stay, stay), h, at(2, h))
	does(t, data(1, stay, out(2, 5, 6, 7)), h, at(2, h))
	does(t, data(1, out(2, 5+256, -1, 7-256), stay), h, at(2, h))
	does(t, data(1, stay, out(3, -1, -1, -1), stay), h, at(2, h), at(3, h))
	does(t, data(1, stay, out(2, -1, 9, -1), out(2, -1, 6, -1), out(2, 5, 9, -1)), h, at(2, h), at(2, api.Header{5, 9, 7}))
	does(t, data(1, stay, out(2+256, -1, -1, -1)), h, at(2, h), at(258, h))
}

// P8.2: all that can be made of some outputs, three in a row, and of a great many.
func TestDoesOfManyOutputs(t *testing.T) {
	pool := []api.Out{out(2, -1, -1, -1), out(2, 5, -1, -1), out(2, -1, 6, 7), out(3, -1, 9, -1), out(3, 5, 9, 263), out(0, 0, -2, 255), out(-1, 0, 0, 0)}
	for _, h := range headers {
		for i := range pool {
			for k := range pool {
				for j := range pool {
					r := data(1, pool[i], pool[k], pool[j])
					does(t, r, h, plainDoes(r, h)...)
				}
			}
		}
	}
	long := data(1, slices.Repeat(pool, 500)...)
	does(t, long, api.Header{5, 6, 7}, plainDoes(long, api.Header{5, 6, 7})...)
}

// P8.3: what is answered is new memory: whatever becomes of it, a rule does the same again.
func TestDoesIsNew(t *testing.T) {
	r, h := full(), api.Header{5, 6, 7}
	want := plainDoes(full(), h)
	first, second := rule.Does(r, h), rule.Does(r, h)
	for i := range first {
		first[i] = api.Sent{Port: 9, H: api.Header{9, 9, 9}}
	}
	_ = append(first[:1], first...)
	if !slices.Equal(second, want) || !plainSame(r, full()) {
		t.Errorf("the second answer became %v, the rule %+v", second, r)
	}
	does(t, r, h, want...)
}
