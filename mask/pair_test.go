package mask_test

import (
	"math"
	"testing"

	"catenary/api"
	"catenary/mask"
)

// vers and ports are ordinary ones, those that say nothing, and some that are none.
var (
	vers  = []int{math.MinInt, -1, 0, 1, 2, 200, math.MaxInt}
	ports = []int{math.MinInt, -2, -1, 0, 1, 4, math.MaxInt}
)

// P7.2: Meet has what one has, or both, bit by bit; none, if they say unlike things.
func TestMeet(t *testing.T) {
	pairs(masks(vers, ports), func(a, b api.Mask) {
		want, is := plainMeet(a, b)
		meets(t, a, b, want, is)
	})
}

// P7.2: each byte of bits against each other one, in each field: they meet unless a bit that counts in both is unlike.
func TestMeetBits(t *testing.T) {
	for field := range 3 {
		for one := range 256 {
			for other := range 256 {
				a, b, want := api.Mask{Port: -1}, api.Mask{Port: -1}, api.Mask{Port: -1}
				a.Bits[field], a.Is[field] = uint8(one), 255
				b.Bits[field], b.Is[field] = uint8(other), 0
				if one&other != 0 {
					meets(t, a, b, api.Mask{}, false)
					continue
				}
				want.Bits[field], want.Is[field] = uint8(one|other), uint8(one)
				meets(t, a, b, want, true)
			}
		}
	}
}

// P7.2: the version 0 and the port -1 say nothing, whichever mask has them; the port 0 says something.
func TestMeetVersionAndPort(t *testing.T) {
	anything := mask.Any()
	both := api.Mask{Ver: 2, Port: 0}
	meets(t, anything, anything, anything, true)
	meets(t, anything, both, both, true)
	meets(t, both, anything, both, true)
	meets(t, api.Mask{Ver: 2, Port: -1}, api.Mask{Port: 0}, both, true)
	meets(t, api.Mask{Port: 0}, api.Mask{Ver: 2, Port: -1}, both, true)
	meets(t, api.Mask{Port: 0}, api.Mask{Port: 1}, api.Mask{}, false)
	meets(t, api.Mask{Ver: -2, Port: -1}, api.Mask{Ver: 2, Port: -1}, api.Mask{}, false)
	meets(t, api.Mask{Ver: -2, Port: -1}, api.Mask{Port: -3}, api.Mask{Ver: -2, Port: -3}, true)
	meets(t, api.Mask{Port: -3}, api.Mask{Port: 3}, api.Mask{}, false)
}

// P7.2: bits that do not count are no hindrance, and are not in what is met.
func TestMeetLooseBits(t *testing.T) {
	a := api.Mask{Port: -1, Bits: api.Header{1}, Is: api.Header{255, 255, 255}}
	b := api.Mask{Port: -1, Bits: api.Header{0, 2}, Is: api.Header{0, 0, 4}}
	meets(t, a, b, api.Mask{Port: -1, Bits: api.Header{1, 2}, Is: api.Header{1}}, true)
	meets(t, a, mask.Any(), api.Mask{Port: -1, Bits: api.Header{1}, Is: api.Header{1}}, true)
}

// P7.3: Covers, bit by bit.
func TestCovers(t *testing.T) {
	pairs(masks(vers, ports), func(a, b api.Mask) {
		covers(t, a, b, plainCovers(a, b))
	})
}

// P7.3: each byte of bits against each other one, in each field: one covers the other, if all that count in it count there, and are alike.
func TestCoversBits(t *testing.T) {
	for field := range 3 {
		for one := range 256 {
			for other := range 256 {
				a, b := api.Mask{Port: -1}, api.Mask{Port: -1}
				a.Bits[field], a.Is[field] = uint8(one), 170
				b.Bits[field], b.Is[field] = uint8(other), 170
				covers(t, a, b, one&^other == 0)
				b.Is[field] = 171
				covers(t, a, b, one&^other == 0 && one&1 == 0)
			}
		}
	}
}

// P7.3: a version covers itself alone, the 0 whatever there is; so does a port, the -1 whatever there is; nothing that says something covers what says nothing.
func TestCoversVersionAndPort(t *testing.T) {
	for _, one := range append(far, -1, 0, 1, 2) {
		for _, other := range append(far, -1, 0, 1, 2) {
			covers(t, api.Mask{Ver: one, Port: -1}, api.Mask{Ver: other, Port: -1}, one == 0 || one == other)
			covers(t, api.Mask{Port: one}, api.Mask{Port: other}, one == -1 || one == other)
		}
	}
}

// P7.5: what two meet in fits just what both fit; where they do not meet, both fit nothing.
func TestMeetFitsWhatBothFit(t *testing.T) {
	all := points([]int{-1, 0, 1, 2}, []int{-2, -1, 0, 1})
	pairs(masks([]int{0, 1, 2}, []int{-1, 0, 1}), func(a, b api.Mask) {
		m, is := mask.Meet(a, b)
		for _, p := range all {
			both := mask.Fits(a, p.ver, p.port, p.h) && mask.Fits(b, p.ver, p.port, p.h)
			if both != (is && mask.Fits(m, p.ver, p.port, p.h)) {
				t.Fatalf("%+v, %+v meet in %+v, %t: both fit %+v: %t", a, b, m, is, p, both)
			}
		}
	})
}

// P7.6: what covers another one fits all that this one fits; what covers both ways fits the same.
func TestCoversFitsAll(t *testing.T) {
	all := points([]int{-1, 0, 1, 2}, []int{-2, -1, 0, 1})
	pairs(masks([]int{0, 1, 2}, []int{-1, 0, 1}), func(a, b api.Mask) {
		there, back := mask.Covers(a, b), mask.Covers(b, a)
		for _, p := range all {
			inA, inB := mask.Fits(a, p.ver, p.port, p.h), mask.Fits(b, p.ver, p.port, p.h)
			if there && inB && !inA || there && back && inA != inB {
				t.Fatalf("%+v, %+v: cover %t, %t, fit %+v: %t, %t", a, b, there, back, p, inA, inB)
			}
		}
	})
}

// P7.6: a mask covers itself, and is covered by Any, with bits that do not count, too; what two meet in is covered by both.
func TestCoversItself(t *testing.T) {
	l := masks(vers, ports)
	for _, m := range l {
		covers(t, m, m, true)
		covers(t, mask.Any(), m, true)
		other := m
		for i := range other.Is {
			other.Is[i] ^= ^other.Bits[i]
		}
		covers(t, m, other, true)
		covers(t, other, m, true)
	}
	pairs(l, func(a, b api.Mask) {
		if m, is := mask.Meet(a, b); is {
			covers(t, a, m, true)
			covers(t, b, m, true)
		}
	})
}
