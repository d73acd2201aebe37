package datum_test

import (
	"bytes"
	"testing"

	"catenary/api"
	"catenary/datum"
)

// example is the document's own datum, and its bytes but for the sum.
var (
	example      = api.Datum{Ver: 2, Hops: 3, Id: 4, H: api.Header{5, 6, 7}}
	exampleBytes = []byte{1, 2, 3, 0, 0, 0, 4, 5, 6, 7}
)

// P3.1: the document's own numbers.
func TestExamples(t *testing.T) {
	b := written(t, example)
	if len(b) != 12 || !bytes.Equal(b[:10], exampleBytes) {
		t.Errorf("% x", b)
	}
	if e := datum.Check(api.Datum{Ver: 201}); e != api.ErrArg {
		t.Errorf("version 201: error %d", e)
	}
	refuses(t, frame(t, 2, exampleBytes[1:]...), api.ErrForm)
	refuses(t, frame(t, 1, append(exampleBytes[1:10:10], 0)...), api.ErrForm)
	reads(t, frame(t, 1, exampleBytes[1:]...), example)
}

// P3.1: what may be has bytes: a frame of the kind 1, of the version, the hops, the number, the header.
func TestBytes(t *testing.T) {
	for _, d := range some() {
		if e := datum.Check(d); e != api.OK {
			t.Errorf("%+v: error %d", d, e)
		}
		same(t, written(t, d), frame(t, 1, plainBody(d)...))
	}
}

// P3.1: each version and each count of hops, up to the last one that may be and past it.
func TestAllVersionsAndHops(t *testing.T) {
	for n := -300; n <= 300; n++ {
		if e := datum.Check(api.Datum{Ver: n}); (e == api.OK) != (n >= 0 && n <= 200) {
			t.Errorf("version %d: error %d", n, e)
		}
		if e := datum.Check(api.Datum{Hops: n}); (e == api.OK) != (n >= 0 && n <= 12) {
			t.Errorf("%d hops: error %d", n, e)
		}
	}
}

// P3.1: what may not be has Check's error, and no bytes.
func TestWrongData(t *testing.T) {
	for _, d := range wrong() {
		if e := datum.Check(d); e != api.ErrArg {
			t.Errorf("%+v: error %d", d, e)
		}
		if b, e := datum.Bytes(d); e != api.ErrArg || len(b) != 0 {
			t.Errorf("%+v: % x, error %d", d, b, e)
		}
	}
}

// P3.3: what is answered is new memory: two answers share nothing.
func TestAnswersShareNothing(t *testing.T) {
	want := frame(t, 1, exampleBytes[1:]...)
	first, second := written(t, example), written(t, example)
	overwrite(first)
	same(t, second, want)
	same(t, written(t, example), want)
}

// P3.4: what has bytes is read of them as it was, and no two have the same ones.
func TestReadAsItWas(t *testing.T) {
	seen := map[string]api.Datum{}
	for _, d := range some() {
		b := written(t, d)
		reads(t, b, d)
		if other, ok := seen[string(b)]; ok {
			t.Errorf("%+v and %+v have the same bytes", d, other)
		}
		seen[string(b)] = d
	}
}
