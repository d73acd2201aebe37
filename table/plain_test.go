package table_test

import (
	"slices"
	"testing"

	"catenary/api"
	"catenary/mask"
	"catenary/rule"
	"catenary/table"
)

// plain is a table as the document says it: a row in which each rule is looked for from the first one on.
type plain struct {
	room  int
	rules []api.Rule
}

// at is where the rule in r's place is; -1, if there is none.
func (p *plain) at(r api.Rule) int {
	return slices.IndexFunc(p.rules, func(o api.Rule) bool {
		if o.Kind != r.Kind {
			return false
		}
		if r.Kind == api.RuleControl {
			return o.To == r.To
		}
		return o.Prio == r.Prio && o.Match == r.Match
	})
}

func (p *plain) add(r api.Rule) api.Errno {
	if e := rule.Check(r); e != api.OK {
		return e
	}
	if at := p.at(r); at >= 0 {
		p.rules[at] = r
		return api.OK
	}
	if len(p.rules) >= p.room {
		return api.ErrTable
	}
	p.rules = append(p.rules, r)
	slices.SortFunc(p.rules, rule.Compare)
	return api.OK
}

func (p *plain) del(r api.Rule) api.Errno {
	if e := rule.Check(r); e != api.OK {
		return e
	}
	at := p.at(r)
	if at < 0 {
		return api.ErrRule
	}
	p.rules = append(p.rules[:at:at], p.rules[at+1:]...)
	return api.OK
}

func (p *plain) loose(m api.Mask) int {
	var stay []api.Rule
	for _, r := range p.rules {
		if r.Kind == api.RuleControl || !mask.Covers(m, r.Match) {
			stay = append(stay, r)
		}
	}
	went := len(p.rules) - len(stay)
	p.rules = stay
	return went
}

func (p *plain) data(ver, port int, h api.Header) (api.Rule, bool) {
	for _, r := range p.rules {
		if r.Kind == api.RuleData && mask.Fits(r.Match, ver, port, h) {
			return r, true
		}
	}
	return api.Rule{}, false
}

func (p *plain) control(to int) (int, bool) {
	for _, r := range p.rules {
		if r.Kind == api.RuleControl && r.To == to {
			return r.Port, true
		}
	}
	return 0, false
}

// agree fails unless a table tells all that the plain one tells.
func agree(t *testing.T, tb *table.Table, p *plain) {
	t.Helper()
	holds(t, tb, p.rules...)
	counts(t, tb.Room(), p.room)
	for to := -1; to <= 8; to++ {
		port, is := p.control(to)
		goes(t, tb, to, port, is)
	}
}

// agreeOnData fails unless a table tells of all points what the plain one tells.
func agreeOnData(t *testing.T, tb *table.Table, p *plain) {
	t.Helper()
	points(func(ver, port int, h api.Header) {
		want, is := p.data(ver, port, h)
		tells(t, tb, ver, port, h, want, is)
	})
}

// P9.1 to P9.4: a long row of calls, in tables of all rooms, answers what a plain table answers, and leaves what it leaves.
func TestLongRows(t *testing.T) {
	rules, masks := append(pool(), wrong()...), matches()
	for room := range api.MaxTable + 1 {
		tb, p := made(t, room), &plain{room: room}
		last := uint32(room)
		below := func(n int) int { // the next number of a row that looks like chance
			last = last*1664525 + 1013904223
			return int(last>>8) % n
		}
		for range 400 {
			r := rule.Copy(rules[below(len(rules))])
			switch below(20) {
			case 0:
				m := masks[below(len(masks))]
				counts(t, tb.Loose(m), p.loose(m))
			case 1, 2, 3, 4:
				errs(t, tb.Del(r), p.del(r))
			default:
				if len(r.Outs) > 0 {
					r.Outs[0].Set[below(3)] = below(256)
				}
				errs(t, tb.Add(r), p.add(r))
			}
			agree(t, tb, p)
		}
		agreeOnData(t, tb, p)
		counts(t, tb.Wipe(), len(p.rules))
		agree(t, tb, &plain{room: room})
		if t.Failed() {
			t.Fatalf("room %d", room)
		}
	}
}
