package table_test

import (
	"slices"
	"testing"

	"catenary/api"
	"catenary/mask"
	"catenary/rule"
)

// roomy is a rule of data whose outputs have spare room, in which one more lies.
func roomy() api.Rule {
	r := data(5, mask.Any(), out(1), out(2), out(3))
	r.Outs = r.Outs[:2]
	return r
}

// spoil writes to a rule's outputs and to their spare room.
func spoil(r api.Rule) {
	outs := r.Outs[:cap(r.Outs)]
	for i := range outs {
		outs[i] = api.Out{Port: 4, Set: [3]int{9, 9, 9}}
	}
}

// P9.5: a rule that is put in is not kept: what becomes of it, and of its spare room, counts for nothing; one that is looked for neither.
func TestHandedInIsNotKept(t *testing.T) {
	want := roomy()
	tb := made(t, 2)
	for range 2 { // it comes, then it stands for itself
		r := roomy()
		errs(t, tb.Add(r), api.OK)
		spoil(r)
		holds(t, tb, want)
		tells(t, tb, 0, 0, api.Header{}, want, true)
	}
	r := roomy()
	r.Prio = 6
	errs(t, tb.Del(r), api.ErrRule)
	spoil(r)
	holds(t, tb, want)
}

// P9.5: what is handed in is only read, its spare room neither is written.
func TestHandedInIsOnlyRead(t *testing.T) {
	r := roomy()
	tb := made(t, 1)
	tb.Add(r)
	tb.Add(r)
	tb.Add(api.Rule{Kind: api.RuleData, Prio: 1, Outs: r.Outs}) // there is no room
	tb.Loose(r.Match)
	tb.Add(r)
	tb.Del(r)
	tb.Del(r)
	if !rule.Same(r, roomy()) || !slices.Equal(r.Outs[:3], roomy().Outs[:3]) {
		t.Errorf("it became %+v, with its spare room %+v", r, r.Outs[:3])
	}
}

// P9.5: what is answered is new memory: whatever becomes of it, the table tells the same again, and so do other answers.
func TestAnsweredIsNew(t *testing.T) {
	first, second := roomy(), data(4, mask.Any(), out(4))
	tb := made(t, 3, first, control(3, 1), second)
	one, other := tb.Rules(), tb.Rules()
	got, _ := tb.Data(0, 0, api.Header{})
	again, _ := tb.Data(0, 0, api.Header{})
	spoil(got)
	_ = append(got.Outs, out(0))
	for i := range one {
		spoil(one[i])
		one[i] = control(6, 4)
	}
	_ = append(one[:1], one...)
	if !rule.Same(again, first) || !slices.EqualFunc(other, []api.Rule{first, second, control(3, 1)}, rule.Same) {
		t.Errorf("the other answers became %+v, %+v", again, other)
	}
	holds(t, tb, first, second, control(3, 1))
	tells(t, tb, 0, 0, api.Header{}, first, true)
}

// P9.5: no two lists of one answer share memory.
func TestAnsweredListsAreTheirOwn(t *testing.T) {
	outs := []api.Out{out(1), out(2)}
	tb := made(t, 2, data(5, mask.Any(), outs...), data(4, mask.Any(), outs[:1]...))
	l := tb.Rules()
	spoil(l[0])
	if !rule.Same(l[1], data(4, mask.Any(), out(1))) {
		t.Errorf("the other rule became %+v", l[1])
	}
	spoil(l[1])
	holds(t, tb, data(5, mask.Any(), out(1), out(2)), data(4, mask.Any(), out(1)))
}

// P9.5: an answer of before stays as it was, whatever the table becomes.
func TestAnswersStay(t *testing.T) {
	tb := made(t, 3, data(5, mask.Any(), out(1)), control(0, 1), control(3, 1))
	was := tb.Rules()
	got, _ := tb.Data(0, 0, api.Header{})
	tb.Add(data(5, mask.Any(), out(2)))
	tb.Add(control(3, 2))
	tb.Loose(mask.Any())
	tb.Wipe()
	tb.Add(control(6, 4))
	want := []api.Rule{data(5, mask.Any(), out(1)), control(0, 1), control(3, 1)}
	if !slices.EqualFunc(was, want, rule.Same) || !rule.Same(got, want[0]) {
		t.Errorf("they became %+v, %+v", was, got)
	}
}

// Two tables share nothing.
func TestTablesAreTheirOwn(t *testing.T) {
	r := data(5, mask.Any(), out(1))
	one, other := made(t, 2, r, control(3, 1)), made(t, 2, r)
	one.Add(data(5, mask.Any(), out(2)))
	one.Del(control(3, 1))
	holds(t, other, r)
	one.Wipe()
	holds(t, other, r)
	other.Wipe()
	holds(t, one)
}
