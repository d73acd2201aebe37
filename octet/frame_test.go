package octet_test

import (
	"bytes"
	"math"
	"testing"

	"catenary/api"
	"catenary/octet"
)

// sums fails unless both ways to the sum answer what is asked for.
func sums(t *testing.T, b []byte, want int) {
	t.Helper()
	if got := octet.Sum(b); got != want {
		t.Fatalf("of %d bytes % x: %x, asked for %x", len(b), b, got, want)
	}
	if got := octet.SumByTable(b); got != want {
		t.Fatalf("of %d bytes % x, by the table: %x, asked for %x", len(b), b, got, want)
	}
}

// P1.1: the sum, and the same one by the table.
func TestSum(t *testing.T) {
	sums(t, []byte("123456789"), 0x29B1)
	sums(t, nil, 0xFFFF)
	sums(t, []byte{}, 0xFFFF)
	for n := range 600 {
		b := row(n)
		sums(t, b, plainSum(b))
	}
	for x := range 1 << 16 {
		b := []byte{byte(x >> 8), byte(x)}
		sums(t, b, plainSum(b))
	}
}

// P1.1: each single bit of a byte, at each place, turns the sum as the document says it.
func TestSumBits(t *testing.T) {
	for _, n := range []int{1, 2, 3, 9, 40} {
		for at := range 8 * n {
			b := make([]byte, n)
			b[at/8] = 0x80 >> (at % 8)
			sums(t, b, plainSum(b))
		}
	}
}

// P1.2: a frame is its kind, its body, and the sum of these.
func TestSeal(t *testing.T) {
	got, e := octet.Seal(1, nil)
	is(t, got, e, 1, 0xF1, 0xD1)
	for _, kind := range []int{0, 1, 127, 128, 255} {
		for _, n := range []int{0, 1, 2, 100, 508, 509} {
			want := append([]byte{byte(kind)}, row(n)...)
			s := plainSum(want)
			got, e := octet.Seal(kind, row(n))
			is(t, got, e, append(want, byte(s>>8), byte(s))...)
		}
	}
}

// P1.2: what can't be sealed; the kind is looked at ahead of the body.
func TestSealWrong(t *testing.T) {
	for _, kind := range []int{-1, 256, 257, -256, math.MinInt, math.MaxInt} {
		for _, n := range []int{0, 1, 510} {
			got, e := octet.Seal(kind, row(n))
			refused(t, got, e, api.ErrArg)
		}
	}
	for _, n := range []int{510, 511, 512, 513, 70000} {
		got, e := octet.Seal(255, row(n))
		refused(t, got, e, api.ErrLimit)
	}
}

// P1.2: what was sealed is opened.
func TestOpen(t *testing.T) {
	for kind := range 256 {
		for _, n := range []int{0, 1, 2, 300, 509} {
			f, _ := octet.Seal(kind, row(n))
			k, body, e := octet.Open(f)
			if k != kind {
				t.Errorf("kind %d, asked for %d", k, kind)
			}
			is(t, body, e, row(n)...)
		}
	}
}

// opensWith fails unless Open answers that error, and nothing beside it.
func opensWith(t *testing.T, f []byte, want api.Errno) {
	t.Helper()
	kind, body, e := octet.Open(f)
	refused(t, body, e, want)
	if kind != 0 {
		t.Errorf("kind %d beside error %d", kind, e)
	}
}

// P1.2: what can't be opened: too long, then too short, then another sum.
func TestOpenWrong(t *testing.T) {
	opensWith(t, nil, api.ErrTrunc)
	opensWith(t, []byte{}, api.ErrTrunc)
	opensWith(t, []byte{1}, api.ErrTrunc)
	opensWith(t, []byte{0xFF, 0xFF}, api.ErrTrunc) // the sum of nothing
	opensWith(t, []byte{1, 0xF1, 0xD0}, api.ErrSum)
	opensWith(t, []byte{1, 0xD1, 0xF1}, api.ErrSum)
	opensWith(t, []byte{0, 0, 0}, api.ErrSum)
	opensWith(t, make([]byte, 512), api.ErrSum)
	opensWith(t, make([]byte, 513), api.ErrLimit)
	long := append([]byte{1}, row(510)...)
	s := plainSum(long)
	opensWith(t, append(long, byte(s>>8), byte(s)), api.ErrLimit) // its sum is right
}

// P1.6: bits of one byte, or of two side by side within 16 bits in a row, are seen: any 16 bits from the head of a byte on are these.
func TestTurnedBits(t *testing.T) {
	for _, body := range [][]byte{nil, {0}, {255}, {1, 2, 3, 4, 5, 6, 7}} {
		f, _ := octet.Seal(3, body)
		for at := range len(f) - 1 {
			for bits := 1; bits < 1<<16; bits++ {
				turned := bytes.Clone(f)
				turned[at] ^= byte(bits >> 8)
				turned[at+1] ^= byte(bits)
				if _, _, e := octet.Open(turned); e != api.ErrSum {
					t.Fatalf("frame % x, bits %04x from byte %d on: error %d", f, bits, at, e)
				}
			}
		}
	}
}

// P1.6: likewise of the longest frame, at each place.
func TestTurnedBitsLong(t *testing.T) {
	f, _ := octet.Seal(255, row(509))
	for at := range len(f) {
		for bits := 1; bits < 256; bits++ {
			f[at] ^= byte(bits)
			opensWith(t, f, api.ErrSum)
			f[at] ^= byte(bits)
		}
	}
	for at := range len(f) - 1 {
		for bits := 0x8001; bits < 1<<16; bits += 0x1100 {
			f[at], f[at+1] = f[at]^byte(bits>>8), f[at+1]^byte(bits)
			opensWith(t, f, api.ErrSum)
			f[at], f[at+1] = f[at]^byte(bits>>8), f[at+1]^byte(bits)
		}
	}
}
