package table

import (
	"cmp"
	"slices"

	"catenary/api"
	"catenary/rule"
)

// What rule.Compare tells of a rule and a place: on which side of it the rule stands.
const (
	inside = 0
	behind = 1
)

// place is where a rule stands in the rules' order, or would stand.
type place struct{ rule api.Rule }

// compare tells how the side on which a rule stands compares with one that is looked for.
func (p place) compare(r api.Rule, side int) int {
	return cmp.Compare(rule.Compare(r, p.rule), side)
}

// isNone tells whether a table is none: nil, or a zero one.
func (t *Table) isNone() bool {
	return t == nil || !t.made
}

// check tells whether there is a table, and whether a rule may be one of it.
func (t *Table) check(r api.Rule) api.Errno {
	if t.isNone() {
		return api.ErrNil
	}
	return rule.Check(r)
}

// stretch tells from where up to where rules in r's place stand: that is one rule, or none, just where r would come in.
func (t *Table) stretch(r api.Rule) (from, to int) {
	compare := place{r}.compare
	from, _ = slices.BinarySearchFunc(t.rules, inside, compare)
	to, _ = slices.BinarySearchFunc(t.rules, behind, compare)
	return from, to
}

// inPlace is the piece of the table in r's place. Nothing that is put behind a piece gets into the table.
func (t *Table) inPlace(r api.Rule) []api.Rule {
	from, to := t.stretch(r)
	return t.rules[from:to:to]
}

// data is the piece of the table that is data rules: they stand ahead of all others, of which the first one is the way to the controller.
func (t *Table) data() []api.Rule {
	to, _ := t.stretch(api.Rule{Kind: api.RuleControl})
	return t.rules[:to:to]
}
