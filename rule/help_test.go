package rule_test

import (
	"math"
	"slices"
	"testing"

	"catenary/api"
	"catenary/rule"
)

// far are numbers past all that a rule may tell, and below.
var far = []int{math.MinInt, math.MinInt + 1, -1 << 32, -65536, -257, -256, -2, -1, 256, 257, 65536, 1 << 32, math.MaxInt}

// few are ordinary numbers, and the ends of all that there are.
var few = []int{math.MinInt, -1, 0, 1, 2, 255, 256, math.MaxInt}

// out is an output at a port that sets three fields.
func out(port, src, dst, typ int) api.Out {
	return api.Out{Port: port, Set: [3]int{src, dst, typ}}
}

// data is a rule of data that matches all, with those outputs.
func data(prio int, outs ...api.Out) api.Rule {
	return api.Rule{Kind: api.RuleData, Prio: prio, Match: api.Mask{Port: -1}, Outs: outs}
}

// full is a rule of data in which each list and each number is another one.
func full() api.Rule {
	return api.Rule{
		Kind: api.RuleData, Prio: 258,
		Match: api.Mask{Ver: 200, Port: 4, Bits: api.Header{255, 15, 1}, Is: api.Header{7, 10, 1}},
		Outs:  []api.Out{out(0, -1, 0, 255), out(4, 1, 2, -1)},
	}
}

// numbers tells where a rule has numbers, its bytes left out.
func numbers(r *api.Rule) []*int {
	l := []*int{&r.Kind, &r.Prio, &r.To, &r.Port, &r.Match.Ver, &r.Match.Port}
	for i := range r.Outs {
		l = append(l, &r.Outs[i].Port, &r.Outs[i].Set[0], &r.Outs[i].Set[1], &r.Outs[i].Set[2])
	}
	return l
}

// octets tells where a rule has bytes.
func octets(r *api.Rule) []*uint8 {
	m := &r.Match
	return []*uint8{&m.Bits[0], &m.Bits[1], &m.Bits[2], &m.Is[0], &m.Is[1], &m.Is[2]}
}

// own is a rule with outputs in memory of their own.
func own(r api.Rule) api.Rule {
	r.Outs = append([]api.Out(nil), r.Outs...)
	return r
}

// changed calls f with rules that are as r, but one number, or one byte.
func changed(r api.Rule, f func(api.Rule)) {
	for i := range numbers(&r) {
		for _, n := range append(far, 0, 1, 2, 3, 4, 5, 6, 7, 200, 201, 255) {
			other := own(r)
			*numbers(&other)[i] = n
			f(other)
		}
	}
	for i := range octets(&r) {
		for n := range 256 {
			other := own(r)
			*octets(&other)[i] = uint8(n)
			f(other)
		}
	}
}

// rules are rules of all kinds, and of none, many of which differ in one thing alone, or in two that tell apart the other way round.
func rules() []api.Rule {
	l := []api.Rule{{}, full(), data(3), data(3, out(1, -1, -1, -1)), data(4), {Kind: 2, To: 3, Port: 2}, {Kind: 2, To: 3, Port: 1}}
	for _, kind := range []int{math.MinInt, 0, 1, 2, 3, math.MaxInt} {
		for _, n := range few {
			l = append(l, api.Rule{Kind: kind, Prio: n}, api.Rule{Kind: kind, To: n}, api.Rule{Kind: kind, Port: n})
			l = append(l, api.Rule{Kind: kind, Prio: n, To: -1 - n, Match: api.Mask{Ver: n, Port: -1 - n}})
			l = append(l, api.Rule{Kind: kind, Match: api.Mask{Ver: -1 - n, Port: n}})
			l = append(l, api.Rule{Kind: kind, Match: api.Mask{Bits: api.Header{uint8(n), uint8(-n), 7}, Is: api.Header{uint8(-n), 7, uint8(n)}}})
		}
		for i := range 6 {
			r := api.Rule{Kind: kind, Match: api.Mask{Port: -1}}
			*octets(&r)[i] = 255
			*octets(&r)[(i+1)%6] = 1
			l = append(l, r)
		}
	}
	return l
}

// everyOther is a row put together of each step-th of l from the first one on, then from the second one on, till all are there.
func everyOther(l []api.Rule, step int) []api.Rule {
	var row []api.Rule
	for first := range step {
		for i := first; i < len(l); i += step {
			row = append(row, l[i])
		}
	}
	return row
}

// keys are what a rule is put in order by, one behind the other, as the document says it.
func keys(r api.Rule) []int {
	if r.Kind != 1 {
		return []int{r.Kind, r.To}
	}
	m := r.Match
	l := []int{r.Kind, r.Prio, m.Ver, m.Port}
	for _, h := range []api.Header{m.Bits, m.Is} {
		l = append(l, int(h[0]), int(h[1]), int(h[2]))
	}
	return l
}

// plainCompare tells which of two rules comes ahead, as the document says it.
func plainCompare(a, b api.Rule) int {
	one, other := keys(a), keys(b)
	for i := range min(len(one), len(other)) {
		ahead := one[i] < other[i]
		if i == 1 && a.Kind == 1 && b.Kind == 1 {
			ahead = one[i] > other[i]
		}
		if one[i] == other[i] {
			continue
		}
		if ahead {
			return -1
		}
		return 1
	}
	return 0
}

// plainSame tells whether two rules are the same, as the document says it.
func plainSame(a, b api.Rule) bool {
	if len(a.Outs) != len(b.Outs) {
		return false
	}
	for i, n := range numbers(&a) {
		if *n != *numbers(&b)[i] {
			return false
		}
	}
	for i, n := range octets(&a) {
		if *n != *octets(&b)[i] {
			return false
		}
	}
	return true
}

// plainDoes is what a rule does, as the document says it.
func plainDoes(r api.Rule, h api.Header) []api.Sent {
	var l []api.Sent
	there := map[api.Sent]bool{}
	for _, o := range r.Outs {
		s := api.Sent{Port: o.Port, H: h}
		for i := range 3 {
			if o.Set[i] != -1 {
				s.H[i] = byte((o.Set[i]%256 + 256) % 256)
			}
		}
		if !there[s] && r.Kind == 1 {
			l = append(l, s)
		}
		there[s] = true
	}
	return l
}

// compares fails unless Compare says of a and b what is wanted, and of b and a the other thing.
func compares(t *testing.T, a, b api.Rule, want int) {
	t.Helper()
	if there, back := rule.Compare(a, b), rule.Compare(b, a); there != want || back != -want {
		t.Errorf("%+v, %+v: %d, the other way %d; asked for %d", a, b, there, back, want)
	}
}

// same fails unless Same says of a and b what is wanted, whichever is the first.
func same(t *testing.T, a, b api.Rule, want bool) {
	t.Helper()
	if there, back := rule.Same(a, b), rule.Same(b, a); there != want || back != want {
		t.Errorf("%+v, %+v: same %t, the other way %t", a, b, there, back)
	}
}

// does fails unless a rule does that to a header.
func does(t *testing.T, r api.Rule, h api.Header, want ...api.Sent) {
	t.Helper()
	if got := rule.Does(r, h); !slices.Equal(got, want) {
		t.Errorf("%+v, %v: does %v; asked for %v", r, h, got, want)
	}
}
