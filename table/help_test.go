package table_test

import (
	"math"
	"slices"
	"testing"

	"catenary/api"
	"catenary/mask"
	"catenary/rule"
	"catenary/table"
)

// far are numbers past all that a rule, a mask or a table may tell, and below.
var far = []int{math.MinInt, -65536, -257, -2, 7, 65, 256, 65536, math.MaxInt}

// out is an output at a port that sets nothing.
func out(port int) api.Out {
	return api.Out{Port: port, Set: [3]int{-1, -1, -1}}
}

// data is a rule of data.
func data(prio int, m api.Mask, outs ...api.Out) api.Rule {
	return api.Rule{Kind: api.RuleData, Prio: prio, Match: m, Outs: outs}
}

// control is a control rule.
func control(to, port int) api.Rule {
	return api.Rule{Kind: api.RuleControl, To: to, Port: port}
}

// only is the mask that says of a field what some of its bits are.
func only(field int, bits, is uint8) api.Mask {
	m, _ := mask.Only(mask.Any(), field, bits, is)
	return m
}

// matches are masks a rule may match by, some of which cover others, and some of which fit nothing that others fit.
func matches() []api.Mask {
	l := []api.Mask{
		mask.Any(), {Ver: 3, Port: -1}, {Ver: 4, Port: -1}, {Ver: 200, Port: 4}, {}, {Port: 1}, {Ver: 3, Port: 1},
		only(0, 255, 5), only(1, 255, 7), only(1, 255, 8), only(1, 240, 0), only(2, 1, 1), only(2, 1, 0), only(0, 128, 0),
	}
	both, _ := mask.Meet(api.Mask{Ver: 3, Port: 1}, only(1, 255, 7))
	return append(l, both)
}

// pool are rules that may be: of data, of each Prio with each match, and control rules to all; no two are in one place.
func pool() []api.Rule {
	var l []api.Rule
	for to := range api.MaxSwitches + 1 {
		l = append(l, control(to, to%(api.MaxPorts+1)))
	}
	for _, prio := range []int{5, 0, 65535, 6} {
		for i, m := range matches() {
			r := data(prio, m)
			for port := range i % 4 {
				r.Outs = append(r.Outs, out(port))
			}
			l = append(l, r)
		}
	}
	return l
}

// wrong are rules that may not be, some of which are in one place with such as may.
func wrong() []api.Rule {
	many := make([]api.Out, api.MaxOuts+1)
	l := []api.Rule{{}, {Kind: 3}, {Kind: -1}, data(5, mask.Any(), many...), data(5, mask.Any(), out(5)), data(-1, mask.Any()), data(65536, mask.Any())}
	l = append(l, data(5, api.Mask{Ver: 201}), data(5, api.Mask{Port: -2}), data(5, api.Mask{Port: 5}), data(5, api.Mask{Port: -1, Is: api.Header{1}}))
	l = append(l, control(-1, 1), control(7, 1), control(3, 5), control(3, -1))
	both := control(3, 1)
	both.Prio = 5
	set := data(5, mask.Any(), api.Out{Port: 1, Set: [3]int{0, 256, 0}})
	return append(l, both, set)
}

// points calls f with versions, ports and headers that some of the matches fit, and some do not.
func points(f func(ver, port int, h api.Header)) {
	headers := []api.Header{{}, {5, 7, 1}, {5, 7, 0}, {5, 8, 1}, {133, 7, 1}, {5, 15, 255}, {200, 16, 2}, {255, 255, 255}}
	for _, ver := range []int{0, 1, 3, 4, 200, -1, math.MaxInt} {
		for _, port := range []int{0, 1, 4, -1, math.MinInt} {
			for _, h := range headers {
				f(ver, port, h)
			}
		}
	}
}

// made is a table with those rules.
func made(t *testing.T, room int, rules ...api.Rule) *table.Table {
	t.Helper()
	tb, e := table.New(room)
	if e != api.OK || tb == nil {
		t.Fatalf("room %d: error %d", room, e)
	}
	for _, r := range rules {
		if e := tb.Add(r); e != api.OK {
			t.Fatalf("room %d, %+v: error %d", room, r, e)
		}
	}
	return tb
}

// errs fails unless an error is that one.
func errs(t *testing.T, got, want api.Errno) {
	t.Helper()
	if got != want {
		t.Errorf("error %d; asked for %d", got, want)
	}
}

// holds fails unless a table tells just those rules, in that order, and how many they are.
func holds(t *testing.T, tb *table.Table, want ...api.Rule) {
	t.Helper()
	if got := tb.Rules(); !slices.EqualFunc(got, want, rule.Same) || tb.Len() != len(want) {
		t.Errorf("%d rules, %+v; asked for %+v", tb.Len(), got, want)
	}
}

// tells fails unless Data tells that rule; none, if is is false.
func tells(t *testing.T, tb *table.Table, ver, port int, h api.Header, want api.Rule, is bool) {
	t.Helper()
	if got, ok := tb.Data(ver, port, h); ok != is || !rule.Same(got, want) {
		t.Errorf("data %d %d %v: %+v, %t; asked for %+v, %t", ver, port, h, got, ok, want, is)
	}
}

// goes fails unless Control tells that port; none, if is is false.
func goes(t *testing.T, tb *table.Table, to, want int, is bool) {
	t.Helper()
	if got, ok := tb.Control(to); ok != is || got != want {
		t.Errorf("control to %d: %d, %t; asked for %d, %t", to, got, ok, want, is)
	}
}

// counts fails unless a count is that one.
func counts(t *testing.T, got, want int) {
	t.Helper()
	if got != want {
		t.Errorf("counted %d; asked for %d", got, want)
	}
}
