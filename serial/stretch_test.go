package serial_test

import (
	"math"
	"testing"

	"catenary/serial"
)

// lengths of stretches: none, some, about half of the round, about all of it, more.
var lengths = []int{
	math.MinInt, -round - 1, -round, -32768, -2, -1, 0, 1, 2, 4, 255, 256, 32767, 32768, 32769,
	65534, 65535, 65536, 65537, 2 * round, 2*round + 5, 1 << 32, math.MaxInt,
}

// at fails unless the stretch has x at that place, or not at all (-1).
func at(t *testing.T, s serial.Stretch[uint16], x uint16, want int) {
	if s.At(x) != want || s.Has(x) != (want >= 0) {
		t.Helper()
		t.Fatalf("(%d, %d): has %d %t, at %d; asked for %d", s.First, s.Len, x, s.Has(x), s.At(x), want)
	}
}

// P2.2: the document's own stretch, which goes round, and its ends.
func TestStretchThatGoesRound(t *testing.T) {
	s := serial.Stretch[uint16]{First: 65534, Len: 4}
	for i, x := range []uint16{65534, 65535, 0, 1} {
		at(t, s, x, i)
	}
	for _, x := range []uint16{2, 3, 32765, 32766, 32767, 65532, 65533} {
		at(t, s, x, -1)
	}
}

// P2.2: stretches of all lengths, gone through number by number as the document says it.
func TestStretches(t *testing.T) {
	places := make([]int, round)
	for _, first := range edges {
		for _, length := range lengths {
			for i := range places {
				places[i] = -1
			}
			x := first
			for i := 0; i < length && i < round; i++ { // behind a whole round each number has stood already
				places[x] = i
				x++
			}
			s := serial.Stretch[uint16]{First: first, Len: length}
			for x, want := range places {
				at(t, s, uint16(x), want)
			}
		}
	}
}

// P2.2: none is in a stretch whose length is below 1, all are in one of a whole round or more.
func TestNoneAndAll(t *testing.T) {
	at(t, serial.Stretch[uint16]{}, 0, -1)
	for _, length := range []int{0, -1, -65536, math.MinInt} {
		at(t, serial.Stretch[uint16]{First: 9, Len: length}, 9, -1)
		at(t, serial.Stretch[uint16]{First: 9, Len: length}, 8, -1)
	}
	at(t, serial.Stretch[uint16]{First: 9, Len: 65535}, 8, -1)
	for _, length := range []int{65536, 65537, 1 << 40, math.MaxInt} {
		at(t, serial.Stretch[uint16]{First: 9, Len: length}, 9, 0)
		at(t, serial.Stretch[uint16]{First: 9, Len: length}, 8, 65535)
	}
}

// P2.4: if the stretch and the number are moved by the same, nothing changes.
func TestMovedStretches(t *testing.T) {
	for _, n := range moves {
		for _, first := range edges {
			for _, length := range lengths {
				s := serial.Stretch[uint16]{First: first, Len: length}
				moved := serial.Stretch[uint16]{First: serial.Plus(first, n), Len: length}
				for _, x := range edges {
					at(t, moved, serial.Plus(x, n), s.At(x))
				}
			}
		}
	}
}
