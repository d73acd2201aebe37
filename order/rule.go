package order

import (
	"catenary/api"
	"catenary/octet"
)

const (
	anyPort  = -1 // of a match: in at whatever port
	stays    = -1 // of an output's set: the field stays as it is
	maxField = 1<<8 - 1
)

// Match tells whether a match may be.
func Match(m api.Mask) api.Errno {
	if within(m.Ver, 0, api.MaxVersion) && within(m.Port, anyPort, api.MaxPorts) && covers(m.Bits, m.Is) {
		return api.OK
	}
	return api.ErrArg
}

// Rule tells whether a rule may be.
func Rule(r api.Rule) api.Errno {
	if isData(r) || isControl(r) {
		return api.OK
	}
	return api.ErrArg
}

// covers tells whether all bits of is are bits of bits, too.
func covers(bits, is api.Header) bool {
	for i := range is {
		if is[i]&^bits[i] != 0 {
			return false
		}
	}
	return true
}

// isData tells whether a rule is a RuleData that may be.
func isData(r api.Rule) bool {
	return r.Kind == api.RuleData &&
		within(r.Prio, 0, maxShort) &&
		r.To == 0 && r.Port == 0 &&
		Match(r.Match) == api.OK &&
		areOuts(r.Outs)
}

// areOuts tells whether a rule may have these outputs.
func areOuts(outs []api.Out) bool {
	if len(outs) > api.MaxOuts {
		return false
	}
	for _, o := range outs {
		if !within(o.Port, 0, api.MaxPorts) || !areFields(o.Set) {
			return false
		}
	}
	return true
}

// areFields tells whether fields may become that, or stay.
func areFields(set [3]int) bool {
	for _, n := range set {
		if !within(n, stays, maxField) {
			return false
		}
	}
	return true
}

// isControl tells whether a rule is a RuleControl that may be.
func isControl(r api.Rule) bool {
	return r.Kind == api.RuleControl &&
		within(r.To, 0, api.MaxSwitches) &&
		within(r.Port, 0, api.MaxPorts) &&
		r.Prio == 0 && r.Match == api.Mask{} && len(r.Outs) == 0
}

// isNone tells whether a rule is the zero one.
func isNone(r api.Rule) bool {
	return r.Kind == 0 && r.Prio == 0 && r.To == 0 && r.Port == 0 && r.Match == api.Mask{} && len(r.Outs) == 0
}

// writeRule puts the bytes of a rule that may be behind b: none of its numbers can be refused.
func writeRule(b []byte, r api.Rule) []byte {
	b, _ = octet.Put(b, byteSize, r.Kind)
	b, _ = octet.Put(b, shortSize, r.Prio)
	b, _ = octet.Put(b, byteSize, r.To, r.Port)
	if r.Kind != api.RuleData {
		return b
	}
	b, _ = octet.Put(b, byteSize, r.Match.Ver, r.Match.Port-anyPort)
	b = append(b, r.Match.Bits[:]...)
	b = append(b, r.Match.Is[:]...)
	b, _ = octet.Put(b, byteSize, len(r.Outs))
	for _, o := range r.Outs {
		set := plus(o.Set, -stays)
		b, _ = octet.Put(b, byteSize, o.Port)
		b, _ = octet.Put(b, shortSize, set[:]...)
	}
	return b
}

// readRule reads a rule, that may be or not.
func readRule(r *octet.Reader) api.Rule {
	rule := api.Rule{
		Kind: r.Num(byteSize),
		Prio: r.Num(shortSize),
		To:   r.Num(byteSize),
		Port: r.Num(byteSize),
	}
	if rule.Kind == api.RuleData {
		rule.Match = readMatch(r)
		rule.Outs = readOuts(r)
	}
	return rule
}

// readMatch reads a match.
func readMatch(r *octet.Reader) api.Mask {
	return api.Mask{
		Ver:  r.Num(byteSize),
		Port: r.Num(byteSize) + anyPort,
		Bits: readHeader(r),
		Is:   readHeader(r),
	}
}

// readHeader reads the bytes of all fields.
func readHeader(r *octet.Reader) api.Header {
	var h api.Header
	for i := range h {
		h[i] = uint8(r.Num(byteSize))
	}
	return h
}

// readOuts reads outputs, more than a rule may have, too: what is too long to be a rule may still end too early.
func readOuts(r *octet.Reader) []api.Out {
	outs := make([]api.Out, r.Num(byteSize))
	for i := range outs {
		outs[i].Port = r.Num(byteSize)
		outs[i].Set = plus(readSet(r), stays)
	}
	return outs
}

// readSet reads what stands for an output's set.
func readSet(r *octet.Reader) [3]int {
	var set [3]int
	for i := range set {
		set[i] = r.Num(shortSize)
	}
	return set
}

// plus is a set with n added to each number: the set itself stays, it came as a value.
func plus(set [3]int, n int) [3]int {
	for i := range set {
		set[i] += n
	}
	return set
}
