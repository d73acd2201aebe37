package serial_test

import (
	"math"
	"testing"

	"catenary/serial"
)

// round is how many numbers there are.
const round = 65536

// mark is a type of one's own, whose underlying type is uint16.
type mark uint16

// edges are numbers at which something may turn.
var edges = []uint16{0, 1, 2, 3, 255, 256, 12345, 32766, 32767, 32768, 32769, 40000, 65533, 65534, 65535}

// moves are ways of moving a number, of any int.
var moves = []int{
	0, 1, -1, 2, -3, 255, 256, 32767, 32768, 32769, -32767, -32768, -32769,
	65535, 65536, 65537, -65535, -65536, -65537, 5*round + 7, -5*round - 7,
	1<<31 - 1, -1 << 31, 1<<32 + 9, -1<<32 - 9, 1<<53 - 1,
	math.MaxInt, math.MaxInt - 1, math.MinInt, math.MinInt + 1,
}

// plainAhead is how far b is ahead of a, as the document says it.
func plainAhead(a, b int) int {
	d := b - a
	for d < -round/2 {
		d += round
	}
	for d >= round/2 {
		d -= round
	}
	return d
}

// plainPlus is the number that is n behind a, as the document says it.
func plainPlus(a, n int) int {
	return ((a+n%round)%round + round) % round
}

// P2.1: the document's own numbers.
func TestExamples(t *testing.T) {
	for _, c := range []struct {
		a, b uint16
		want int
		less bool
	}{
		{65535, 2, 3, true}, {2, 65535, -3, false},
		{0, 32768, -32768, false}, {32768, 0, -32768, false},
		{65535, 0, 1, true}, {0, 65535, -1, false},
		{0, 32767, 32767, true}, {32767, 0, -32767, false},
		{0, 32769, -32767, false}, {32769, 0, 32767, true},
		{7, 7, 0, false}, {0, 0, 0, false}, {65535, 65535, 0, false},
	} {
		if got := serial.Ahead(c.a, c.b); got != c.want {
			t.Errorf("%d is ahead of %d by %d, asked for %d", c.b, c.a, got, c.want)
		}
		if got := serial.Less(c.a, c.b); got != c.less {
			t.Errorf("%d less than %d: %t", c.a, c.b, got)
		}
	}
	if n := serial.Plus(uint16(65535), 1); n != 0 {
		t.Errorf("65535 and 1: %d", n)
	}
	if n := serial.Plus(uint16(0), -1); n != 65535 {
		t.Errorf("0 less 1: %d", n)
	}
}

// P2.1: how far one is ahead of another one, and which of them is less, for all numbers beside each edge.
func TestAheadAndLess(t *testing.T) {
	for _, a := range edges {
		for n := range round {
			b := uint16(n)
			want := plainAhead(int(a), n)
			if got := serial.Ahead(a, b); got != want {
				t.Fatalf("%d is ahead of %d by %d, asked for %d", b, a, got, want)
			}
			if got := serial.Ahead(b, a); got != plainAhead(n, int(a)) {
				t.Fatalf("%d is ahead of %d by %d", a, b, got)
			}
			if got := serial.Less(a, b); got != (want >= 1 && want <= 32767) {
				t.Fatalf("%d less than %d: %t", a, b, got)
			}
		}
	}
}

// P2.1: a number behind another one, by any int.
func TestPlus(t *testing.T) {
	for _, n := range moves {
		for a := range round {
			if got, want := serial.Plus(uint16(a), n), plainPlus(a, n); int(got) != want {
				t.Fatalf("%d and %d: %d, asked for %d", a, n, got, want)
			}
		}
	}
	for n := -2 * round; n <= 2*round; n++ {
		for _, a := range []uint16{0, 1, 40000, 65535} {
			if got, want := serial.Plus(a, n), plainPlus(int(a), n); int(got) != want {
				t.Fatalf("%d and %d: %d, asked for %d", a, n, got, want)
			}
		}
	}
}

// P2.1, P2.2: all of it is there for a type of one's own, and answers that type.
func TestTypeOfOnesOwn(t *testing.T) {
	var a, b mark = 65535, 2
	if serial.Ahead(a, b) != 3 || serial.Ahead(b, a) != -3 || !serial.Less(a, b) || serial.Less(b, a) {
		t.Error("compared as something else")
	}
	var sum mark = serial.Plus(a, 3)
	if sum != b {
		t.Errorf("moved to %d", sum)
	}
	s := serial.Stretch[mark]{First: a, Len: 4}
	if !s.Has(b) || s.Has(b+1) || s.At(b) != 3 || s.At(b+1) != -1 {
		t.Error("a stretch of something else")
	}
}

// P2.3: of two unlike numbers just one is less, but of two that are 32768 apart.
func TestOneIsLess(t *testing.T) {
	for _, a := range edges {
		for n := range round {
			b := uint16(n)
			there, back := serial.Less(a, b), serial.Less(b, a)
			switch apart := n - int(a); apart {
			case 0, 32768, -32768:
				if there || back {
					t.Fatalf("%d and %d, %d apart: %t, %t", a, b, apart, there, back)
				}
			default:
				if there == back {
					t.Fatalf("%d and %d, %d apart: %t both ways", a, b, apart, there)
				}
			}
		}
	}
}

// P2.4: who goes from a as far as b is ahead of it comes to b.
func TestPlusAhead(t *testing.T) {
	for _, a := range edges {
		for n := range round {
			b := uint16(n)
			if got := serial.Plus(a, serial.Ahead(a, b)); got != b {
				t.Fatalf("from %d as far as %d: %d", a, b, got)
			}
		}
	}
}

// P2.4: if both numbers are moved by the same, nothing changes.
func TestMovedNumbers(t *testing.T) {
	for _, n := range moves {
		for _, a := range edges {
			for b := uint16(0); b < round-97; b += 97 {
				movedA, movedB := serial.Plus(a, n), serial.Plus(b, n)
				if serial.Ahead(movedA, movedB) != serial.Ahead(a, b) {
					t.Fatalf("%d and %d, moved by %d: another distance", a, b, n)
				}
				if serial.Less(movedA, movedB) != serial.Less(a, b) {
					t.Fatalf("%d and %d, moved by %d: another order", a, b, n)
				}
			}
		}
	}
}
