package rule_test

import (
	"math"
	"slices"
	"testing"

	"catenary/api"
	"catenary/rule"
)

// P8.1: Compare of each two rules, of all kinds and of none.
func TestCompare(t *testing.T) {
	l := rules()
	for _, a := range l {
		for _, b := range l {
			compares(t, a, b, plainCompare(a, b))
		}
	}
}

// P8.1: Compare of rules of which one number, or one byte, is another one.
func TestCompareChanged(t *testing.T) {
	control := api.Rule{Kind: 2, To: 3, Port: 2}
	for _, r := range append(rules(), full(), control) {
		changed(r, func(other api.Rule) { compares(t, r, other, plainCompare(r, other)) })
	}
}

// P8.1: by rising Kinds, whatever else there is.
func TestCompareKinds(t *testing.T) {
	kinds := []int{math.MinInt, -2, -1, 0, 1, 2, 3, 257, math.MaxInt}
	for i, one := range kinds {
		for k, other := range kinds {
			if i >= k {
				continue
			}
			a, b := full(), full()
			a.Kind, b.Kind = one, other
			for _, n := range few {
				a.Prio, a.To, a.Match.Ver = n, n, n
				compares(t, a, b, -1)
			}
		}
	}
}

// P8.1: what stands ahead counts more: of two things that tell apart the other way round, the first one does.
func TestCompareFirstThingFirst(t *testing.T) {
	rises := []func(*api.Rule){
		func(r *api.Rule) { r.Prio = 6 }, // falling: the higher one is ahead
		func(r *api.Rule) { r.Match.Ver = 4 },
		func(r *api.Rule) { r.Match.Port = 2 },
	}
	for i := range octets(&api.Rule{}) {
		rises = append(rises, func(r *api.Rule) { *octets(r)[i] = 4 })
	}
	base := api.Rule{Kind: 1, Prio: 7, Match: api.Mask{Ver: 5, Port: 3, Bits: api.Header{5, 5, 5}, Is: api.Header{5, 5, 5}}}
	for i, first := range rises {
		want := -1
		if i == 0 {
			want = 1
		}
		a := base
		first(&a)
		compares(t, a, base, want)
		for _, second := range rises[i+1:] {
			b := base
			second(&b)
			compares(t, a, b, want)
		}
	}
}

// P8.4: of each three rules: what is ahead of what is ahead is ahead; two in one place stand to a third one alike.
func TestCompareIsAnOrder(t *testing.T) {
	l := rules()
	for _, a := range l {
		compares(t, a, own(a), 0)
		for _, b := range l {
			for _, c := range l {
				ab, bc, ac := rule.Compare(a, b), rule.Compare(b, c), rule.Compare(a, c)
				if ab == bc && ac != ab || ab == 0 && ac != bc {
					t.Fatalf("%+v, %+v, %+v: %d, %d, the first and the last %d", a, b, c, ab, bc, ac)
				}
			}
		}
	}
}

// P8.4: sorted, a row of rules is the same, whichever way they stood, if no two of them are in one place.
func TestSortedRowsAreTheSame(t *testing.T) {
	var l []api.Rule
	for _, r := range rules() {
		if !slices.ContainsFunc(l, func(o api.Rule) bool { return plainCompare(o, r) == 0 }) {
			l = append(l, r)
		}
	}
	slices.SortFunc(l, rule.Compare)
	for step := 1; step <= len(l); step++ {
		other := everyOther(l, step)
		if step%2 == 0 {
			slices.Reverse(other)
		}
		slices.SortFunc(other, rule.Compare)
		if !slices.EqualFunc(l, other, plainSame) {
			t.Fatalf("step %d: another row", step)
		}
	}
}

// P8.5: the higher Prio is ahead, at both ends of all numbers, too, whatever a rule matches and does.
func TestHigherPrioIsAhead(t *testing.T) {
	prios := []int{math.MinInt, math.MinInt + 1, -1, 0, 1, 255, 256, 65535, 65536, math.MaxInt}
	for i, low := range prios {
		for _, high := range prios[i+1:] {
			compares(t, data(high), data(low), -1)
			a, b := full(), data(low)
			a.Prio = high
			compares(t, a, b, -1)
			a.Prio, b.Prio = low, high
			compares(t, a, b, 1)
		}
	}
}

// P8.5: which two are in one place: what a rule does counts for nothing, nor To and Port of RuleData, nor Prio, Match and Port of others; a bit of Is that does not count in Bits tells apart.
func TestInOnePlace(t *testing.T) {
	inOne := func(a, b api.Rule) bool {
		if a.Kind != b.Kind {
			return false
		}
		if a.Kind == api.RuleData {
			return a.Prio == b.Prio && a.Match == b.Match
		}
		return a.To == b.To
	}
	for _, r := range rules() {
		changed(r, func(other api.Rule) {
			for _, outs := range [][]api.Out{nil, {out(1, -1, 2, 3)}, make([]api.Out, 9)} {
				other.Outs = outs
				if got := rule.Compare(r, other) == 0; got != inOne(r, other) {
					t.Errorf("%+v, %+v: in one place %t", r, other, got)
				}
			}
		})
	}
	loose := data(3)
	loose.Match.Is[1] = 1
	compares(t, data(3), loose, -1)
}
