package octet_test

import (
	"bytes"
	"math"
	"testing"

	"catenary/api"
	"catenary/octet"
)

// P1.3: numbers and texts go as they are read.
func TestRead(t *testing.T) {
	r := octet.Read([]byte{1, 2, 3, 4, 5, 6, 7, 0, 2, 'h', 'i', 0, 0, 9})
	for i, c := range []struct{ size, want, left int }{{1, 1, 13}, {2, 0x0203, 11}, {4, 0x04050607, 7}} {
		if got := r.Num(c.size); got != c.want || r.Left() != c.left || r.Err() != api.OK {
			t.Errorf("number %d: %d, %d left, error %d", i, got, r.Left(), r.Err())
		}
	}
	if got := r.Text(); string(got) != "hi" || r.Left() != 3 {
		t.Errorf("text %q, %d left", got, r.Left())
	}
	if got := r.Text(); len(got) != 0 || r.Left() != 1 || r.Err() != api.OK {
		t.Errorf("text %q, %d left, error %d", got, r.Left(), r.Err())
	}
	if r.Num(1) != 9 || r.Left() != 0 || r.Err() != api.OK || r.End() != api.OK {
		t.Errorf("at the end: %d left, error %d", r.Left(), r.End())
	}
}

// failed fails unless the reader has that error, for good, and nothing is left.
func failed(t *testing.T, r *octet.Reader, want api.Errno) {
	t.Helper()
	for range 2 {
		if r.Err() != want || r.End() != want || r.Left() != 0 {
			t.Errorf("error %d, at the end %d, %d left; asked for error %d", r.Err(), r.End(), r.Left(), want)
		}
		for _, size := range []int{1, 2, 4, 3} {
			if n := r.Num(size); n != 0 {
				t.Errorf("number %d behind an error", n)
			}
		}
		if s := r.Text(); len(s) != 0 {
			t.Errorf("text % x behind an error", s)
		}
	}
}

// P1.3: numbers of other sizes, and with too few bytes.
func TestNumWrong(t *testing.T) {
	for _, size := range []int{0, 3, 5, 8, -1, -4, math.MinInt, math.MaxInt} {
		for _, b := range [][]byte{nil, {1}, {1, 2, 3, 4, 5, 6, 7, 8}} {
			r := octet.Read(b)
			if n := r.Num(size); n != 0 {
				t.Errorf("size %d: %d", size, n)
			}
			failed(t, r, api.ErrArg)
		}
	}
	for _, c := range []struct{ size, have int }{{1, 0}, {2, 0}, {2, 1}, {4, 0}, {4, 1}, {4, 3}} {
		r := octet.Read(bytes.Repeat([]byte{7}, c.have))
		if n := r.Num(c.size); n != 0 {
			t.Errorf("%d of %d bytes: %d", c.have, c.size, n)
		}
		failed(t, r, api.ErrTrunc)
	}
}

// P1.3: texts whose length, or whose bytes, are not all there.
func TestTextWrong(t *testing.T) {
	for _, b := range [][]byte{nil, {0}, {0, 1}, {0, 3, 1, 2}, {255, 255, 1}, append([]byte{255, 255}, row(65534)...)} {
		r := octet.Read(b)
		if s := r.Text(); len(s) != 0 {
			t.Errorf("of % x: % x", b, s)
		}
		failed(t, r, api.ErrTrunc)
	}
}

// P1.3: an error behind what was read well; the first one stays.
func TestErrorStays(t *testing.T) {
	r := octet.Read([]byte{5, 1, 2, 3})
	if r.Num(1) != 5 || r.Num(4) != 0 {
		t.Error("read something else")
	}
	failed(t, r, api.ErrTrunc)
	if r.Num(9); r.Err() != api.ErrTrunc {
		t.Errorf("error %d", r.Err())
	}
	r = octet.Read([]byte{5, 1, 2, 3})
	r.Num(3)
	r.Num(4)
	failed(t, r, api.ErrArg)
}

// P1.3: bytes that are left are an error of End's alone.
func TestEnd(t *testing.T) {
	r := octet.Read([]byte{0, 1})
	for range 2 {
		if r.End() != api.ErrForm || r.Err() != api.OK || r.Left() != 2 {
			t.Errorf("at the end %d, error %d, %d left", r.End(), r.Err(), r.Left())
		}
	}
	if r.Num(1) != 0 || r.End() != api.ErrForm || r.Num(1) != 1 || r.End() != api.OK {
		t.Error("reading does not go on")
	}
	if e := octet.Read(nil).End(); e != api.OK {
		t.Errorf("of no bytes: error %d", e)
	}
}

// P1.3: of a nil reader all is 0, nothing, OK.
func TestNilReader(t *testing.T) {
	var r *octet.Reader
	failed(t, r, api.OK)
	if r.Num(-1) != 0 || r.Err() != api.OK {
		t.Errorf("error %d", r.Err())
	}
}

// P1.3: a zero reader is one of no bytes, and so is one of nil.
func TestZeroReader(t *testing.T) {
	for _, fresh := range []func() *octet.Reader{
		func() *octet.Reader { return new(octet.Reader) },
		func() *octet.Reader { return octet.Read(nil) },
		func() *octet.Reader { return octet.Read([]byte{}) },
	} {
		r := fresh()
		if r.Left() != 0 || r.Err() != api.OK || r.End() != api.OK {
			t.Errorf("%d left, error %d, at the end %d", r.Left(), r.Err(), r.End())
		}
		r.Num(1)
		failed(t, r, api.ErrTrunc)
		r = fresh()
		r.Text()
		failed(t, r, api.ErrTrunc)
		r = fresh()
		r.Num(3)
		failed(t, r, api.ErrArg)
	}
}
