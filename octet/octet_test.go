package octet_test

import (
	"bytes"
	"math"
	"testing"

	"catenary/api"
	"catenary/octet"
)

// P1.1: numbers are their digits in base 256, the highest first, behind b.
func TestPut(t *testing.T) {
	for _, c := range []struct {
		b    []byte
		size int
		l    []int
		want []byte
	}{
		{nil, 2, []int{1, 515}, []byte{0, 1, 2, 3}},
		{[]byte{7, 8}, 1, []int{0, 255}, []byte{7, 8, 0, 255}},
		{[]byte{7}, 2, []int{0, 65535, 256}, []byte{7, 0, 0, 255, 255, 1, 0}},
		{nil, 4, []int{0, 1<<32 - 1, 0x01020304}, []byte{0, 0, 0, 0, 255, 255, 255, 255, 1, 2, 3, 4}},
		{nil, 4, []int{1 << 31}, []byte{128, 0, 0, 0}},
		{[]byte{9}, 4, nil, []byte{9}},
		{nil, 1, nil, nil},
	} {
		got, e := octet.Put(c.b, c.size, c.l...)
		is(t, got, e, c.want...)
	}
}

// P1.1: no other size, and that ahead of the numbers.
func TestPutSizes(t *testing.T) {
	for _, size := range []int{0, 3, 5, 8, 16, -1, -2, -4, 257, 258, 260, math.MinInt, math.MaxInt} {
		got, e := octet.Put([]byte{1}, size, 1)
		refused(t, got, e, api.ErrArg)
		got, e = octet.Put([]byte{1}, size, -1)
		refused(t, got, e, api.ErrArg)
		got, e = octet.Put([]byte{1}, size)
		refused(t, got, e, api.ErrArg)
	}
}

// P1.1: no number past either end, wherever it stands.
func TestPutRange(t *testing.T) {
	for _, size := range []int{1, 2, 4} {
		last := 1<<(8*size) - 1
		for _, n := range []int{-1, last + 1, -last, -last - 1, 2*last + 2, math.MinInt, math.MaxInt} {
			for _, l := range [][]int{{n}, {0, last, n}, {n, 1}} {
				got, e := octet.Put([]byte{1}, size, l...)
				refused(t, got, e, api.ErrRange)
			}
		}
		if _, e := octet.Put(nil, size, 0, last); e != api.OK {
			t.Errorf("size %d: error %d at its ends", size, e)
		}
	}
}

// P1.1: a text is how many bytes it has, and they, behind b.
func TestText(t *testing.T) {
	got, e := octet.Text(nil, []byte("ab"))
	is(t, got, e, 0, 2, 'a', 'b')
	got, e = octet.Text([]byte{9, 8}, []byte{0, 255, 0})
	is(t, got, e, 9, 8, 0, 3, 0, 255, 0)
	got, e = octet.Text([]byte{9}, nil)
	is(t, got, e, 9, 0, 0)
	got, e = octet.Text(nil, []byte{})
	is(t, got, e, 0, 0)
	long := row(258)
	got, e = octet.Text(nil, long)
	is(t, got, e, append([]byte{1, 2}, long...)...)
}

// P1.1: a text has 65535 bytes at most.
func TestTextLimit(t *testing.T) {
	longest := row(65535)
	got, e := octet.Text([]byte{5}, longest)
	is(t, got, e, append([]byte{5, 255, 255}, longest...)...)
	for _, n := range []int{65536, 65537, 131072} {
		got, e = octet.Text([]byte{5}, make([]byte, n))
		refused(t, got, e, api.ErrLimit)
	}
}

// P1.5: numbers that were put are read as they were, and what stands behind them is left.
func TestNumbersReadAsPut(t *testing.T) {
	for _, size := range []int{1, 2, 4} {
		last := 1<<(8*size) - 1
		l := []int{0, 1, last, last / 2, last/2 + 1, last / 3, 77}
		b, _ := octet.Put(nil, size, l...)
		b = append(b, 1, 2, 3)
		r := octet.Read(b)
		for i, want := range l {
			if got := r.Num(size); got != want {
				t.Errorf("size %d, number %d: read %d, put %d", size, i, got, want)
			}
		}
		if r.Left() != 3 || r.Err() != api.OK || r.Num(1) != 1 || r.Num(2) != 515 {
			t.Errorf("size %d: what stands behind is not left", size)
		}
	}
	for n := range 1 << 16 {
		b, _ := octet.Put(nil, 2, n)
		if got := octet.Read(b).Num(2); got != n {
			t.Fatalf("read %d, put %d", got, n)
		}
	}
}

// P1.5: texts that were put are read as they were, and what stands behind them is left.
func TestTextsReadAsPut(t *testing.T) {
	for _, n := range []int{0, 1, 2, 255, 256, 257, 65534, 65535} {
		s := row(n)
		b, _ := octet.Text([]byte{6}, s)
		b, _ = octet.Text(b, []byte("behind"))
		r := octet.Read(b)
		if r.Num(1) != 6 || !bytes.Equal(r.Text(), s) {
			t.Errorf("a text of %d bytes is read as another one", n)
		}
		if r.Left() != 8 || string(r.Text()) != "behind" || r.End() != api.OK {
			t.Errorf("what stands behind a text of %d bytes is not left", n)
		}
	}
}

// P1.5: numbers of all sizes and texts, one behind the other.
func TestMixReadAsPut(t *testing.T) {
	b, _ := octet.Put(nil, 1, 200)
	b, _ = octet.Put(b, 4, 1<<32-2)
	b, _ = octet.Text(b, []byte{0, 1})
	b, _ = octet.Put(b, 2, 40000)
	r := octet.Read(b)
	if r.Num(1) != 200 || r.Num(4) != 1<<32-2 || !bytes.Equal(r.Text(), []byte{0, 1}) || r.Num(2) != 40000 {
		t.Error("read as something else")
	}
	if e := r.End(); e != api.OK {
		t.Errorf("error %d at the end", e)
	}
}
