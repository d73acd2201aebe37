package octet_test

import (
	"bytes"
	"slices"
	"testing"

	"catenary/api"
	"catenary/octet"
)

// overwrite writes to a list and its spare room.
func overwrite(b []byte) {
	b = b[:cap(b)]
	for i := range b {
		b[i] = 0xAA
	}
}

// P1.4: Put and Text only read what they are handed, and answer new memory.
func TestPutKeepsNothing(t *testing.T) {
	for name, call := range map[string]func(b []byte) ([]byte, api.Errno){
		"numbers":    func(b []byte) ([]byte, api.Errno) { return octet.Put(b, 2, 258) },
		"no numbers": func(b []byte) ([]byte, api.Errno) { return octet.Put(b, 2) },
		"text":       func(b []byte) ([]byte, api.Errno) { return octet.Text(b, []byte{1, 2}) },
		"no text":    func(b []byte) ([]byte, api.Errno) { return octet.Text(b, nil) },
		"wrong size": func(b []byte) ([]byte, api.Errno) { return octet.Put(b, 3, 1) },
		"wrong last": func(b []byte) ([]byte, api.Errno) { return octet.Put(b, 1, 1, 256) },
		"long text":  func(b []byte) ([]byte, api.Errno) { return octet.Text(b, row(65536)) },
	} {
		t.Run(name, func(t *testing.T) {
			b := roomy(3, 4, 5)
			got, _ := call(b)
			untouched(t, b, 3, 4, 5)
			was := bytes.Clone(got)
			overwrite(b)
			if !bytes.Equal(got, was) {
				t.Error("the answer changes with what was handed in")
			}
			b = roomy(3, 4, 5)
			got, _ = call(b)
			overwrite(got)
			untouched(t, b, 3, 4, 5)
		})
	}
}

// P1.4: the numbers, and the text, are only read, too.
func TestPutReadsAlone(t *testing.T) {
	l := []int{1, 2, 300, 7, 7}[:3]
	octet.Put(nil, 1, l...)
	octet.Put(nil, 2, l...)
	if !slices.Equal(l[:5], []int{1, 2, 300, 7, 7}) {
		t.Error("the numbers were changed")
	}
	s := roomy(8, 9)
	got, e := octet.Text(roomy(1), s)
	untouched(t, s, 8, 9)
	overwrite(s)
	is(t, got, e, 1, 0, 2, 8, 9)
	whole := []byte{1, 2, 3, 4, 5, 6}
	got, e = octet.Text(whole[:2], whole[1:4]) // the text lies in the spare room of what is ahead of it
	is(t, got, e, 1, 2, 0, 3, 2, 3, 4)
	if !bytes.Equal(whole, []byte{1, 2, 3, 4, 5, 6}) {
		t.Error("the spare room was written")
	}
}

// P1.4: sums, frames: only read, and answered in new memory.
func TestFramesKeepNothing(t *testing.T) {
	body := roomy(6, 7)
	octet.Sum(body)
	octet.SumByTable(body)
	f, e := octet.Seal(9, body)
	untouched(t, body, 6, 7)
	sealed := bytes.Clone(f)
	overwrite(body)
	is(t, f, e, sealed...)

	f = roomy(sealed...)
	_, got, e := octet.Open(f)
	untouched(t, f, sealed...)
	overwrite(f)
	is(t, got, e, 6, 7)

	f = roomy(sealed...)
	_, got, _ = octet.Open(f)
	overwrite(got)
	untouched(t, f, sealed...)

	body = roomy(6, 7)
	f, _ = octet.Seal(9, body)
	overwrite(f)
	untouched(t, body, 6, 7)
}

// P1.4: a reader reads the bytes as they were when it was made, and does not write to them.
func TestReaderKeepsNothing(t *testing.T) {
	b := roomy(1, 0, 2, 8, 9, 0, 1, 7)
	r := octet.Read(b)
	overwrite(b)
	if n := r.Num(1); n != 1 {
		t.Errorf("number %d", n)
	}
	first := r.Text()
	is(t, first, r.Err(), 8, 9)
	overwrite(first)
	second := r.Text()
	is(t, second, r.End(), 7)

	b = roomy(0, 2, 8, 9)
	text := octet.Read(b).Text()
	overwrite(text)
	untouched(t, b, 0, 2, 8, 9)
}

// P1.4: two readers of the same bytes, and two answers of them, share nothing.
func TestReadersAreTheirOwn(t *testing.T) {
	b := []byte{0, 1, 5, 0, 1, 6}
	r, q := octet.Read(b), octet.Read(b)
	overwrite(r.Text())
	is(t, q.Text(), q.Err(), 5)
	is(t, r.Text(), r.End(), 6)
	is(t, q.Text(), q.End(), 6)
}
