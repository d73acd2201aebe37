package hail_test

import (
	"bytes"
	"math"
	"slices"
	"testing"

	"catenary/api"
	"catenary/hail"
)

// lastLong is the last number of four bytes, lastShort the last one of two.
const (
	lastLong  = 1<<32 - 1
	lastShort = 1<<16 - 1
)

// noSwitches are numbers that are no switches: below 1, above 6, and such as are one but for a multiple of 2^8, 2^16 or 2^32.
var noSwitches = []int{
	math.MinInt, math.MinInt + 3, -1<<32 + 2, -1 << 32, -65535, -256, -255, -6, -2, -1, 0,
	7, 8, 255, 256, 257, 65536 + 2, 1 << 31, 1 << 32, 1<<32 + 1, 1<<32 + 6, 1<<53 - 1, math.MaxInt,
}

// noLongs are numbers that have not four bytes: below 0, and above the last one.
var noLongs = []int{
	math.MinInt, math.MinInt + 5, -1 << 53, -1 << 32, -1<<32 + 1, -1 << 31, -1<<31 + 7, -65536, -256, -2, -1,
	lastLong + 1, lastLong + 2, lastLong + 6, 1 << 33, 1<<53 - 1, 1 << 62, math.MaxInt - 1, math.MaxInt,
}

// longs are epochs, at which something may turn; with 0 they are boots.
var longs = []int{1, 2, 3, 6, 7, 255, 256, 65535, 65536, 1<<31 - 1, 1 << 31, 1<<31 + 1, lastLong - 1, lastLong}

// boots are how often a switch may have begun.
var boots = append([]int{0}, longs...)

// within tells whether n is from first to last.
func within(n, first, last int) bool {
	return first <= n && n <= last
}

// mayBe tells whether a segment may be, as chapter 5 says it.
func mayBe(s api.Seg) bool {
	if (s.To == 0) == (s.From == 0) || !within(s.To, 0, 6) || !within(s.From, 0, 6) || !within(s.Hops, 0, 12) {
		return false
	}
	rest := s
	rest.Kind, rest.To, rest.From, rest.Hops, rest.B = 0, 0, 0, 0, nil
	right := len(s.B) == 0
	switch s.Kind {
	case 1:
		right = right && s.From == 0
	case 2:
		right = right && s.To == 0 && within(s.Boot, 0, lastLong)
		rest.Boot = 0
	case 3:
		right = right && s.From == 0 && within(s.Epoch, 1, lastLong) && within(s.Boot, 0, lastLong)
		rest.Epoch, rest.Boot = 0, 0
	case 4:
		right = right && within(s.Epoch, 1, lastLong) && within(s.Ack, 0, lastShort)
		rest.Epoch, rest.Ack = 0, 0
	case 5:
		right = within(s.Epoch, 1, lastLong) && within(s.Seq, 0, lastShort) && within(len(s.B), 1, 256)
		rest.Epoch, rest.Seq = 0, 0
	default:
		return false
	}
	return right && same(rest, api.Seg{})
}

// same tells whether all fields of two segments are the same.
func same(a, b api.Seg) bool {
	return a.Kind == b.Kind && a.To == b.To && a.From == b.From && a.Hops == b.Hops &&
		a.Epoch == b.Epoch && a.Boot == b.Boot && a.Seq == b.Seq && a.Ack == b.Ack && bytes.Equal(a.B, b.B)
}

// The segments that ends say.
func hello(to int) api.Seg      { return api.Seg{Kind: 1, To: to, Hops: 12} }
func hi(from, boot int) api.Seg { return api.Seg{Kind: 2, From: from, Hops: 12, Boot: boot} }
func syn(to, epoch, boot int) api.Seg {
	return api.Seg{Kind: 3, To: to, Hops: 12, Epoch: epoch, Boot: boot}
}
func ack(from, epoch int) api.Seg { return api.Seg{Kind: 4, From: from, Hops: 12, Epoch: epoch} }

// plainCall is a call as the document says it.
type plainCall struct {
	to, epoch, boot int
	offers, open    bool
}

func (p *plainCall) says() (api.Seg, bool) {
	if p.open {
		return api.Seg{}, false
	}
	if p.offers {
		return syn(p.to, p.epoch, p.boot), true
	}
	return hello(p.to), true
}

func (p *plainCall) takes(s api.Seg) bool {
	if !mayBe(s) || s.From != p.to {
		return false
	}
	switch {
	case s.Kind == 2 && !p.offers && !p.open:
		p.offers, p.boot = true, s.Boot
		return true
	case s.Kind == 4 && s.Epoch == p.epoch && p.offers && !p.open:
		p.open = true
		return true
	}
	return false
}

// plainGuest is a guest as the document says it.
type plainGuest struct{ self, boot, epoch int }

func (p *plainGuest) takes(s api.Seg) (answer api.Seg, is, begins bool) {
	if !mayBe(s) || s.To != p.self {
		return answer, false, false
	}
	if s.Kind == 1 {
		return hi(p.self, p.boot), true, false
	}
	if s.Kind != 3 || s.Boot != p.boot {
		return answer, false, false
	}
	if s.Epoch > p.epoch {
		p.epoch, begins = s.Epoch, true
	}
	if s.Epoch == p.epoch {
		return ack(p.self, p.epoch), true, begins
	}
	return answer, false, false
}

// newCall is a call that asks, and a plain one that is the same.
func newCall(t *testing.T, to, epoch int) (*hail.Call, *plainCall) {
	t.Helper()
	c, e := hail.NewCall(to, epoch)
	if e != api.OK || c == nil {
		t.Fatalf("to %d, epoch %d: a call %t, error %d", to, epoch, c != nil, e)
	}
	return c, &plainCall{to: to, epoch: epoch}
}

// noCall fails unless there is no call to a switch with an epoch, by ErrArg.
func noCall(t *testing.T, to, epoch int) {
	t.Helper()
	if c, e := hail.NewCall(to, epoch); c != nil || e != api.ErrArg {
		t.Errorf("to %d, epoch %d: a call %t, error %d; asked for error %d", to, epoch, c != nil, e, api.ErrArg)
	}
}

// newGuest is a guest without a session, and a plain one that is the same.
func newGuest(t *testing.T, self, boot int) (*hail.Guest, *plainGuest) {
	t.Helper()
	g, e := hail.NewGuest(self, boot)
	if e != api.OK || g == nil {
		t.Fatalf("self %d, boot %d: a guest %t, error %d", self, boot, g != nil, e)
	}
	return g, &plainGuest{self: self, boot: boot}
}

// noGuest fails unless there is no guest of a switch with a boot, by ErrArg.
func noGuest(t *testing.T, self, boot int) {
	t.Helper()
	if g, e := hail.NewGuest(self, boot); g != nil || e != api.ErrArg {
		t.Errorf("self %d, boot %d: a guest %t, error %d; asked for error %d", self, boot, g != nil, e, api.ErrArg)
	}
}

// likeCall fails unless a call tells all that the plain one tells.
func likeCall(t *testing.T, c *hail.Call, p *plainCall) {
	t.Helper()
	want, is := p.says()
	if s, got := c.Says(); got != is || !same(s, want) {
		t.Errorf("says %+v, %t; asked for %+v, %t", s, got, want, is)
	}
	if c.Open() != p.open || c.Boot() != p.boot {
		t.Errorf("open %t, boot %d; asked for %t, %d", c.Open(), c.Boot(), p.open, p.boot)
	}
}

// callTakes fails unless a call takes a segment as the plain one takes it.
func callTakes(t *testing.T, c *hail.Call, p *plainCall, s api.Seg) {
	t.Helper()
	want := p.takes(s)
	if got := c.Take(s); got != want {
		t.Errorf("%+v: goes on %t; asked for %t", s, got, want)
	}
	likeCall(t, c, p)
}

// likeGuest fails unless a guest tells all that the plain one tells.
func likeGuest(t *testing.T, g *hail.Guest, p *plainGuest) {
	t.Helper()
	if g.Epoch() != p.epoch || g.Boot() != p.boot {
		t.Errorf("epoch %d, boot %d; asked for %d, %d", g.Epoch(), g.Boot(), p.epoch, p.boot)
	}
}

// guestTakes fails unless a guest takes a segment, and answers, as the plain one does.
func guestTakes(t *testing.T, g *hail.Guest, p *plainGuest, s api.Seg) {
	t.Helper()
	want, is, begins := p.takes(s)
	if answer, gotIs, gotBegins := g.Take(s); gotIs != is || gotBegins != begins || !same(answer, want) {
		t.Errorf("%+v: %+v, %t, begins %t; asked for %+v, %t, %t", s, answer, gotIs, gotBegins, want, is, begins)
	}
	likeGuest(t, g, p)
}

// fields are all fields of a segment that are numbers.
func fields(s *api.Seg) []*int {
	return []*int{&s.Kind, &s.To, &s.From, &s.Hops, &s.Epoch, &s.Boot, &s.Seq, &s.Ack}
}

// values are what each of the fields is tried with, beside what the ends' own numbers are.
var values = [][]int{
	{-1, 0, 1, 2, 3, 4, 5, 6, 7, 257, 258, 1<<32 + 2},
	{-1, 0, 1, 2, 3, 6, 7, 256 + 2, 1<<32 + 2},
	{-1, 0, 1, 2, 3, 6, 7, 256 + 2, 1<<32 + 2},
	{math.MinInt, -1, 0, 1, 11, 12, 13, 268, math.MaxInt},
	{-1, 0, 1, lastLong, lastLong + 1, math.MaxInt},
	{-1, 0, 1, lastLong, lastLong + 1, math.MaxInt},
	{-1, 0, 1, lastShort, lastShort + 1},
	{-1, 0, 1, lastShort, lastShort + 1},
}

// texts are what a segment's message is tried with.
var texts = [][]byte{nil, {}, {0}, {1, 2, 3}, make([]byte, 256), make([]byte, 257)}

// near are a number and those about it, and such as are it but for a multiple of 2^32.
func near(n int) []int {
	return []int{n - 1, n, n + 1, n + 1<<32, n - 1<<32}
}

// segments calls f with many segments of all kinds, to and from the switch 2, with numbers about an epoch and a boot: those that may be, and all that differ from one of them in two of the fields at most.
func segments(epoch, boot int, f func(s api.Seg)) {
	with := slices.Clone(values)
	with[4] = slices.Concat(values[4], near(epoch), near(boot))
	with[5] = slices.Concat(values[5], near(boot), near(epoch))
	for _, s := range []api.Seg{
		hello(2), hi(2, boot), syn(2, epoch, boot), ack(2, epoch), {Kind: 4, To: 2, Epoch: epoch},
		{Kind: 5, To: 2, Epoch: epoch, B: []byte{9}}, {Kind: 5, From: 2, Epoch: epoch, B: []byte{9}}, {},
	} {
		for _, b := range texts {
			s.B = b
			f(s)
			for i := range with {
				for j := range i + 1 {
					changed(s, with, i, j, f)
				}
			}
		}
	}
}

// changed calls f with a segment of which the fields i and j have each of the values that they are tried with.
func changed(s api.Seg, with [][]int, i, j int, f func(s api.Seg)) {
	for _, x := range with[i] {
		for _, y := range with[j] {
			other := s
			*fields(&other)[i] = x
			*fields(&other)[j] = y
			f(other)
		}
	}
}

// chance is a row of numbers that looks like chance.
type chance uint32

// below is the next number of the row, from 0 to n - 1.
func (c *chance) below(n int) int {
	*c = *c*1664525 + 1013904223
	return int(*c>>8) % n
}
