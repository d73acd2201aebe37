package order_test

import (
	"bytes"
	"math"
	"slices"
	"testing"

	"catenary/api"
	"catenary/octet"
	"catenary/order"
)

// lastLong and lastShort are the greatest numbers of four bytes and of two.
const (
	lastLong  = 1<<32 - 1
	lastShort = 1<<16 - 1
)

// far are numbers that no place of an order may tell.
var far = []int{-2, -3, -255, -256, -257, -65536, -1 << 32, 1 << 32, 1<<32 + 1, 1<<32 + 2, 1 << 40, math.MinInt, math.MaxInt}

// found is a probe that came back, its frame's body behind the kind of the frame.
var (
	found     = api.Probe{From: 1, FromPort: 2, To: 3, ToPort: 4, Nonce: 258}
	foundBody = []byte{1, 2, 3, 4, 1, 2}
)

// dataRule is a rule of data with two outputs, dataBytes its bytes.
func dataRule() api.Rule {
	return api.Rule{
		Kind: api.RuleData, Prio: 258,
		Match: api.Mask{Ver: 200, Port: 4, Bits: api.Header{255, 15, 1}, Is: api.Header{1, 10, 1}},
		Outs:  []api.Out{{Port: 0, Set: [3]int{-1, 0, 255}}, {Port: 4, Set: [3]int{1, 2, -1}}},
	}
}

var dataBytes = []byte{1, 1, 2, 0, 0, 200, 5, 255, 15, 1, 1, 10, 1, 2, 0, 0, 0, 0, 1, 1, 0, 4, 0, 2, 0, 3, 0, 0}

// sample is an order that may be, and its bytes.
type sample struct {
	o api.Order
	b []byte
}

// samples are orders of each kind, one or more.
func samples(t *testing.T) []sample {
	t.Helper()
	probe, e := octet.Seal(api.FrameProbe, foundBody)
	if e != api.OK {
		t.Fatal(e)
	}
	nobody := api.Rule{Kind: api.RuleData, Prio: lastShort, Match: api.Mask{Port: -1}}
	control := api.Rule{Kind: api.RuleControl, To: 6, Port: 4}
	return []sample{
		{api.Order{Kind: 1}, []byte{1}},
		{api.Order{Kind: 2, Rule: dataRule()}, slices.Concat([]byte{2}, dataBytes)},
		{api.Order{Kind: 2, Rule: control}, []byte{2, 2, 0, 0, 6, 4}},
		{api.Order{Kind: 3, Rule: dataRule()}, slices.Concat([]byte{3}, dataBytes)},
		{api.Order{Kind: 3, Rule: api.Rule{Kind: api.RuleControl}}, []byte{3, 2, 0, 0, 0, 0}},
		{api.Order{Kind: 3, Rule: nobody}, []byte{3, 1, 255, 255, 0, 0, 0, 0, 0, 0, 0, 0, 0, 0, 0}},
		{api.Order{Kind: 4, N: 200}, []byte{4, 200}},
		{api.Order{Kind: 5, N: 4, M: 772}, []byte{5, 4, 3, 4}},
		{api.Order{Kind: 6, N: 1<<24 + 5}, []byte{6, 1, 0, 0, 5}},
		{api.Order{Kind: 7, N: lastLong, M: 1027}, []byte{7, 255, 255, 255, 255, 4, 3}},
		{api.Order{Kind: 8, P: found}, slices.Concat([]byte{8, 0, 9}, probe)},
		{api.Order{Kind: 9, N: 3, M: 1}, []byte{9, 3, 1}},
	}
}

// within tells whether n is from first to last.
func within(n, first, last int) bool {
	return n >= first && n <= last
}

// matchMayBe tells whether a match may be, as the document says it.
func matchMayBe(m api.Mask) bool {
	for bit := range 24 {
		if m.Is[bit/8]>>(bit%8)&1 == 1 && m.Bits[bit/8]>>(bit%8)&1 == 0 {
			return false
		}
	}
	return within(m.Ver, 0, 200) && within(m.Port, -1, 4)
}

// ruleMayBe tells whether a rule may be, as the document says it.
func ruleMayBe(r api.Rule) bool {
	if r.Kind == 2 {
		return r.Prio == 0 && within(r.To, 0, 6) && within(r.Port, 0, 4) && r.Match == (api.Mask{}) && len(r.Outs) == 0
	}
	if r.Kind != 1 || !within(r.Prio, 0, lastShort) || r.To != 0 || r.Port != 0 || len(r.Outs) > 8 {
		return false
	}
	for _, o := range r.Outs {
		for _, n := range append(o.Set[:], o.Port) {
			if n < -1 || n > 255 {
				return false
			}
		}
		if o.Port < 0 || o.Port > 4 {
			return false
		}
	}
	return matchMayBe(r.Match)
}

// mayBe tells whether an order may be, kind by kind, as the document says it.
func mayBe(o api.Order) bool {
	noRule := !unlike(api.Order{Rule: o.Rule}, api.Order{})
	noProbe := o.P == api.Probe{}
	bare := noRule && noProbe
	switch o.Kind {
	case 1:
		return bare && o.N == 0 && o.M == 0
	case 2, 3:
		return ruleMayBe(o.Rule) && noProbe && o.N == 0 && o.M == 0
	case 4:
		return bare && within(o.N, 0, 200) && o.M == 0
	case 5:
		return bare && within(o.N, 1, 4) && within(o.M, 0, lastShort)
	case 6:
		return bare && within(o.N, 0, lastLong) && o.M == 0
	case 7:
		return bare && within(o.N, 0, lastLong) && within(o.M, 0, lastShort)
	case 8:
		p := o.P
		return noRule && o.N == 0 && o.M == 0 && within(p.From, 1, 6) && within(p.FromPort, 1, 4) &&
			within(p.To, 1, 6) && within(p.ToPort, 1, 4) && within(p.Nonce, 0, lastShort)
	case 9:
		return bare && within(o.N, 1, 4) && within(o.M, 0, 1)
	}
	return false
}

// unlike tells whether two orders differ. No outputs are as a list of none.
func unlike(a, b api.Order) bool {
	x, y := a.Rule, b.Rule
	return a.Kind != b.Kind || a.N != b.N || a.M != b.M || a.P != b.P ||
		x.Kind != y.Kind || x.Prio != y.Prio || x.To != y.To || x.Port != y.Port ||
		x.Match != y.Match || !slices.Equal(x.Outs, y.Outs)
}

// places are pointers to all numbers of an order, those of its outputs, too.
func places(o *api.Order) []*int {
	r, p := &o.Rule, &o.P
	l := []*int{
		&o.Kind, &o.N, &o.M,
		&r.Kind, &r.Prio, &r.To, &r.Port, &r.Match.Ver, &r.Match.Port,
		&p.From, &p.FromPort, &p.To, &p.ToPort, &p.Nonce,
	}
	for i := range r.Outs {
		out := &r.Outs[i]
		l = append(l, &out.Port, &out.Set[0], &out.Set[1], &out.Set[2])
	}
	return l
}

// twin is an order that shares nothing with o.
func twin(o api.Order) api.Order {
	o.Rule.Outs = slices.Clone(o.Rule.Outs)
	return o
}

// changed calls f with the order, each of its numbers in turn as each of those.
func changed(o api.Order, numbers []int, f func(o api.Order)) {
	for place := range places(&o) {
		for _, n := range numbers {
			other := twin(o)
			*places(&other)[place] = n
			f(other)
		}
	}
}

// written is the bytes of an order that may be.
func written(t *testing.T, o api.Order) []byte {
	t.Helper()
	b, e := order.Bytes(o)
	if e != api.OK {
		t.Fatalf("%+v: error %d", o, e)
	}
	return b
}

// wrong fails unless Check and Bytes refuse the order, and nothing is answered.
func wrong(t *testing.T, o api.Order) {
	t.Helper()
	if e := order.Check(o); e != api.ErrArg {
		t.Errorf("%+v: error %d", o, e)
	}
	if b, e := order.Bytes(o); e != api.ErrArg || len(b) != 0 {
		t.Errorf("%+v: % x, error %d", o, b, e)
	}
}

// asked fails unless an order that may be is written, and read as it was, and one that may not be is refused.
func asked(t *testing.T, o api.Order) {
	t.Helper()
	if !mayBe(o) {
		wrong(t, o)
		return
	}
	if e := order.Check(o); e != api.OK {
		t.Errorf("%+v: error %d", o, e)
	}
	b := written(t, o)
	if len(b) > api.MaxBody {
		t.Errorf("%+v: %d bytes", o, len(b))
	}
	reads(t, b, o)
}

// reads fails unless that order is read of the bytes.
func reads(t *testing.T, b []byte, want api.Order) {
	t.Helper()
	if o, e := order.Parse(b); e != api.OK || unlike(o, want) {
		t.Errorf("read %+v of % x, error %d; asked for %+v", o, b, e, want)
	}
}

// refuses fails unless the bytes are refused by that error, and nothing is read of them.
func refuses(t *testing.T, b []byte, want api.Errno) {
	t.Helper()
	if o, e := order.Parse(b); e != want || unlike(o, api.Order{}) {
		t.Errorf("read %+v of % x, error %d; asked for error %d", o, b, e, want)
	}
}

// same fails unless the bytes are those.
func same(t *testing.T, got, want []byte) {
	t.Helper()
	if !bytes.Equal(got, want) {
		t.Errorf("% x, asked for % x", got, want)
	}
}

// roomy is the bytes with spare room behind them, and both together.
func roomy(l []byte) (b, room []byte) {
	room = append(bytes.Clone(l), bytes.Repeat([]byte{0xEE}, 300)...)
	return room[:len(l)], room
}

// overwrite writes to all bytes, those of the spare room, too.
func overwrite(b []byte) {
	b = b[:cap(b)]
	for i := range b {
		b[i] = 0xAA
	}
}
