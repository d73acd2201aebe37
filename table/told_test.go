package table_test

import (
	"slices"
	"testing"

	"catenary/api"
	"catenary/mask"
	"catenary/rule"
)

// P9.3: a control rule tells its port, the port 0 too; of whom there is no rule there is no port.
func TestControl(t *testing.T) {
	for to := range api.MaxSwitches + 1 {
		for port := range api.MaxPorts + 1 {
			tb := made(t, 2, control(to, port), data(5, mask.Any(), out(4)))
			for other := -1; other <= 8; other++ {
				if other == to {
					goes(t, tb, other, port, true)
				} else {
					goes(t, tb, other, 0, false)
				}
			}
			for _, n := range far {
				goes(t, tb, n, 0, false)
			}
		}
	}
}

// P9.3: all control rules are found among each other, and among data rules.
func TestControlAmongOthers(t *testing.T) {
	tb := made(t, 64, pool()[:60]...)
	for to := range api.MaxSwitches + 1 {
		goes(t, tb, to, to%5, true)
	}
}

// P9.3: of the rules that fit, the one with the highest Prio is told; of one Prio the first one in order.
func TestDataFirst(t *testing.T) {
	all := data(5, mask.Any(), out(1))
	seven := data(5, only(1, 255, 7), out(2))
	third := data(5, api.Mask{Ver: 3, Port: -1}, out(3))
	low := data(4, api.Mask{Ver: 3, Port: 1, Bits: api.Header{0, 255, 0}, Is: api.Header{0, 7, 0}}, out(4))
	high := data(6, only(2, 255, 9))
	h, nine := api.Header{1, 7, 1}, api.Header{1, 7, 9}
	tb := made(t, 8, low, third, control(3, 1))
	tells(t, tb, 3, 1, h, third, true)
	tells(t, tb, 2, 1, h, api.Rule{}, false)
	errs(t, tb.Add(seven), api.OK)
	tells(t, tb, 3, 1, h, seven, true)
	tells(t, tb, 2, 1, h, seven, true)
	errs(t, tb.Add(all), api.OK)
	tells(t, tb, 3, 1, h, all, true)
	errs(t, tb.Add(high), api.OK)
	tells(t, tb, 3, 1, h, all, true)
	tells(t, tb, 3, 1, nine, high, true) // without outputs, but it is the one
	for _, r := range []api.Rule{high, all, seven, third} {
		tells(t, tb, 3, 1, nine, r, true)
		errs(t, tb.Del(r), api.OK)
	}
	tells(t, tb, 3, 1, nine, low, true)
	tells(t, tb, 3, 2, nine, api.Rule{}, false)
	tells(t, tb, 0, 1, nine, api.Rule{}, false)
}

// P9.3, P9.7: what is told fits, and no rule that fits has a higher Prio; none is told where none fits.
func TestDataFitsBest(t *testing.T) {
	rules := pool()
	for from := 0; from < len(rules); from++ {
		there := rules[from:min(from+8, len(rules))]
		tb := made(t, 8, there...)
		points(func(ver, port int, h api.Header) {
			best := -1
			for _, r := range there {
				if r.Kind == api.RuleData && mask.Fits(r.Match, ver, port, h) {
					best = max(best, r.Prio)
				}
			}
			got, is := tb.Data(ver, port, h)
			if is != (best >= 0) || is && (got.Kind != api.RuleData || got.Prio != best || !mask.Fits(got.Match, ver, port, h)) {
				t.Errorf("%d %d %v: %+v, %t; asked for the Prio %d", ver, port, h, got, is, best)
			}
		})
	}
}

// P9.7: data rules that come and go change nothing of Control, nor control rules of Data.
func TestKindsApart(t *testing.T) {
	rules := pool()
	controls, datas := rules[:7], rules[7:57]
	mixed, plainData := made(t, 64, rules[:57]...), &plain{room: 64, rules: slices.Clone(datas)}
	slices.SortFunc(plainData.rules, rule.Compare)
	agreeOnData(t, mixed, plainData)
	for _, r := range controls {
		errs(t, mixed.Del(r), api.OK)
		agreeOnData(t, mixed, plainData)
	}
	mixed = made(t, 64, rules[:57]...)
	for _, r := range datas {
		errs(t, mixed.Del(r), api.OK)
		for _, c := range controls {
			goes(t, mixed, c.To, c.Port, true)
		}
	}
	holds(t, mixed, controls...)
}

// P9.4: data rules by falling Prio, then by what they match; then control rules by rising To.
func TestRulesInOrder(t *testing.T) {
	want := []api.Rule{
		data(65535, mask.Any()),
		data(6, api.Mask{Port: 2}),
		data(5, mask.Any(), out(3)),
		data(5, only(2, 1, 0)),
		data(5, only(2, 1, 1)),
		data(5, only(1, 255, 6)),
		data(5, only(0, 1, 0)),
		data(5, api.Mask{}),
		data(5, api.Mask{Port: 4}),
		data(5, api.Mask{Ver: 1, Port: -1}, out(1)),
		data(5, api.Mask{Ver: 1}),
		data(5, api.Mask{Ver: 2, Port: -1}),
		data(0, mask.Any()),
		control(0, 4), control(1, 3), control(5, 0), control(6, 0),
	}
	for step := 1; step <= len(want); step++ {
		tb := made(t, len(want))
		for first := range step {
			for i := first; i < len(want); i += step {
				errs(t, tb.Add(want[len(want)-1-i]), api.OK)
			}
		}
		holds(t, tb, want...)
	}
}

// P9.6: five rules in all the orders in which they can come make the same table.
func TestWhicheverCameFirst(t *testing.T) {
	rules := []api.Rule{control(3, 1), data(5, mask.Any(), out(1)), data(6, only(1, 255, 7), out(2)), control(0, 2), data(5, api.Mask{Ver: 3, Port: -1})}
	want := slices.Clone(rules)
	slices.SortFunc(want, rule.Compare)
	var each func(n int)
	each = func(n int) {
		if n == len(rules) {
			holds(t, made(t, len(rules), rules...), want...)
		}
		for i := n; i < len(rules); i++ {
			rules[n], rules[i] = rules[i], rules[n]
			each(n + 1)
			rules[n], rules[i] = rules[i], rules[n]
		}
	}
	each(0)
}
