package mask_test

import (
	"math"
	"testing"

	"catenary/api"
	"catenary/mask"
)

// point is what a mask fits or not: a version, a port, and a header.
type point struct {
	ver, port int
	h         api.Header
}

// far are numbers past all versions and ports that there are, and below.
var far = []int{math.MinInt, -1 << 32, -256, -2, 5, 201, 256, 1 << 32, math.MaxInt}

// says are bits that count, and what they are: none, some of one field, all of all, such that meet and such that do not, and some with bits in what they are that do not count.
var says = []struct{ bits, is api.Header }{
	{},
	{api.Header{}, api.Header{255, 255, 255}},
	{api.Header{255, 255, 255}, api.Header{5, 6, 7}},
	{api.Header{255, 255, 255}, api.Header{5, 7, 7}},
	{api.Header{240, 0, 0}, api.Header{16, 0, 0}},
	{api.Header{15, 0, 0}, api.Header{3, 0, 0}},
	{api.Header{15, 0, 0}, api.Header{243, 255, 1}},
	{api.Header{0, 255, 0}, api.Header{0, 6, 0}},
	{api.Header{0, 1, 0}, api.Header{0, 0, 0}},
	{api.Header{0, 1, 0}, api.Header{255, 1, 255}},
	{api.Header{0, 0, 128}, api.Header{0, 0, 128}},
	{api.Header{1, 2, 4}, api.Header{1, 2, 4}},
	{api.Header{1, 2, 4}, api.Header{254, 253, 251}},
	{api.Header{255, 255, 255}, api.Header{19, 1, 128}},
}

// masks are masks of those versions and ports, with all that says tells.
func masks(vers, ports []int) []api.Mask {
	var l []api.Mask
	for _, ver := range vers {
		for _, port := range ports {
			for _, s := range says {
				l = append(l, api.Mask{Ver: ver, Port: port, Bits: s.bits, Is: s.is})
			}
		}
	}
	return l
}

// points are points of those versions and ports, with headers that differ in one bit, or in all.
func points(vers, ports []int) []point {
	headers := []api.Header{{}, {5, 6, 7}, {5, 6, 6}, {5, 7, 7}, {21, 6, 7}, {19, 0, 128}, {19, 1, 128}, {3, 1, 0}, {1, 2, 4}, {254, 253, 251}, {255, 255, 255}}
	var l []point
	for _, ver := range vers {
		for _, port := range ports {
			for _, h := range headers {
				l = append(l, point{ver, port, h})
			}
		}
	}
	return l
}

// pairs calls f with each two of the masks, one twice, too.
func pairs(l []api.Mask, f func(a, b api.Mask)) {
	for _, a := range l {
		for _, b := range l {
			f(a, b)
		}
	}
}

// bit is the bit i of a header, from 0 to 23.
func bit(h api.Header, i int) int {
	return int(h[i/8]>>(i%8)) & 1
}

// plainFits tells whether a mask fits, bit by bit, as the document says it.
func plainFits(m api.Mask, p point) bool {
	for i := range 24 {
		if bit(m.Bits, i) == 1 && bit(m.Is, i) != bit(p.h, i) {
			return false
		}
	}
	return (m.Ver == 0 || m.Ver == p.ver) && (m.Port == -1 || m.Port == p.port)
}

// plainMeet is what two masks meet in, bit by bit, as the document says it.
func plainMeet(a, b api.Mask) (api.Mask, bool) {
	if a.Ver != 0 && b.Ver != 0 && a.Ver != b.Ver || a.Port != -1 && b.Port != -1 && a.Port != b.Port {
		return api.Mask{}, false
	}
	m := api.Mask{Ver: a.Ver, Port: a.Port}
	if b.Ver != 0 {
		m.Ver = b.Ver
	}
	if b.Port != -1 {
		m.Port = b.Port
	}
	for i := range 24 {
		inA, inB := bit(a.Bits, i) == 1, bit(b.Bits, i) == 1
		if inA && inB && bit(a.Is, i) != bit(b.Is, i) {
			return api.Mask{}, false
		}
		if inA || inB {
			m.Bits[i/8] |= 1 << (i % 8)
		}
		if inA && bit(a.Is, i) == 1 || inB && bit(b.Is, i) == 1 {
			m.Is[i/8] |= 1 << (i % 8)
		}
	}
	return m, true
}

// plainCovers tells whether a says nothing that b does not say, bit by bit, as the document says it.
func plainCovers(a, b api.Mask) bool {
	for i := range 24 {
		if bit(a.Bits, i) == 1 && (bit(b.Bits, i) == 0 || bit(a.Is, i) != bit(b.Is, i)) {
			return false
		}
	}
	return (a.Ver == 0 || a.Ver == b.Ver) && (a.Port == -1 || a.Port == b.Port)
}

// fits fails unless the mask fits the point, or not, as want says.
func fits(t *testing.T, m api.Mask, p point, want bool) {
	t.Helper()
	if got := mask.Fits(m, p.ver, p.port, p.h); got != want {
		t.Errorf("%+v, %+v: fits %t", m, p, got)
	}
}

// meets fails unless the two masks meet in that one; in none, if is is false.
func meets(t *testing.T, a, b, want api.Mask, is bool) {
	t.Helper()
	if got, ok := mask.Meet(a, b); ok != is || got != want {
		t.Errorf("%+v, %+v: meet in %+v, %t; asked for %+v, %t", a, b, got, ok, want, is)
	}
}

// covers fails unless a covers b, or not, as want says.
func covers(t *testing.T, a, b api.Mask, want bool) {
	t.Helper()
	if got := mask.Covers(a, b); got != want {
		t.Errorf("%+v, %+v: covers %t", a, b, got)
	}
}

// only is Any, and what says that those bits of the field are is's.
func only(t *testing.T, field int, bits, is uint8) api.Mask {
	t.Helper()
	m, ok := mask.Only(mask.Any(), field, bits, is)
	if !ok {
		t.Fatalf("no mask of the field %d", field)
	}
	return m
}
