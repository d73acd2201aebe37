package probe_test

import (
	"bytes"
	"testing"

	"catenary/api"
	"catenary/probe"
)

// example is the document's own probe, and its bytes but for the sum.
var (
	example      = api.Probe{From: 1, FromPort: 2, To: 3, ToPort: 4, Nonce: 258}
	exampleBytes = []byte{2, 1, 2, 3, 4, 1, 2}
)

// P4.1, P4.3: the document's own examples.
func TestExamples(t *testing.T) {
	b := written(t, example)
	if len(b) != 9 || !bytes.Equal(b[:7], exampleBytes) {
		t.Errorf("% x", b)
	}
	found, e := probe.Found(api.Probe{From: 1, FromPort: 2}, 3, 4)
	if e != api.OK || found != (api.Probe{From: 1, FromPort: 2, To: 3, ToPort: 4}) {
		t.Errorf("found: %+v, error %d", found, e)
	}
	notFound(t, found, 3, 4, api.ErrState)
	if e := probe.Check(api.Probe{FromPort: 2}); e != api.ErrArg {
		t.Errorf("from 0: error %d", e)
	}
	if e := probe.Check(api.Probe{From: 1, FromPort: 2, To: 3}); e != api.ErrArg {
		t.Errorf("to 3, port 0: error %d", e)
	}
}

// P4.1: what may be has bytes: a frame of the kind 2, of where it came from, who found it, and the nonce.
func TestBytes(t *testing.T) {
	for _, p := range some() {
		if e := probe.Check(p); e != api.OK {
			t.Errorf("%+v: error %d", p, e)
		}
		same(t, written(t, p), frame(t, 2, plainBody(p)...))
	}
}

// P4.1: what may not be has Check's error, and no bytes.
func TestWrongProbes(t *testing.T) {
	for _, p := range wrong() {
		if e := probe.Check(p); e != api.ErrArg {
			t.Errorf("%+v: error %d", p, e)
		}
		if b, e := probe.Bytes(p); e != api.ErrArg || len(b) != 0 {
			t.Errorf("%+v: % x, error %d", p, b, e)
		}
	}
}

// P4.1: each nonce of two bytes may be.
func TestAllNonces(t *testing.T) {
	for nonce := range 1 << 16 {
		p := api.Probe{From: 6, FromPort: 4, Nonce: nonce}
		reads(t, written(t, p), p)
	}
}

// P4.4: what is answered is new memory: two answers share nothing.
func TestAnswersShareNothing(t *testing.T) {
	want := frame(t, 2, exampleBytes[1:]...)
	first, second := written(t, example), written(t, example)
	first = first[:cap(first)]
	for i := range first {
		first[i] = 0xAA
	}
	same(t, second, want)
	same(t, written(t, example), want)
}

// P4.5: what has bytes is read of them as it was, and no two have the same ones.
func TestReadAsItWas(t *testing.T) {
	seen := map[string]api.Probe{}
	for _, p := range some() {
		b := written(t, p)
		reads(t, b, p)
		if other, ok := seen[string(b)]; ok {
			t.Errorf("%+v and %+v have the same bytes", p, other)
		}
		seen[string(b)] = p
	}
}
