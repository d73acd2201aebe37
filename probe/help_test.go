package probe_test

import (
	"bytes"
	"math"
	"slices"
	"testing"

	"catenary/api"
	"catenary/octet"
	"catenary/probe"
)

// outside are numbers that are below 0, or past what a number of any place here may be.
var outside = []int{-1, -2, -256, -65536, 65536, 65537, 1<<16 + 3, 1 << 32, 1<<32 + 1, math.MinInt, math.MaxInt}

// nonces are some that may be, the edges among them.
var nonces = []int{0, 1, 255, 256, 258, 32768, 65534, 65535}

// some are probes that may be: all that differ in a place, with some nonces.
func some() []api.Probe {
	l := unfound()
	for _, p := range unfound() {
		for to := 1; to <= 6; to++ {
			for port := 1; port <= 4; port++ {
				p.To, p.ToPort = to, port
				l = append(l, p)
			}
		}
	}
	return l
}

// unfound are probes that nobody found.
func unfound() []api.Probe {
	var l []api.Probe
	for from := 1; from <= 6; from++ {
		for port := 1; port <= 4; port++ {
			for _, nonce := range nonces {
				l = append(l, api.Probe{From: from, FromPort: port, Nonce: nonce})
			}
		}
	}
	return l
}

// wrong are probes that may not be, each in one number or more.
func wrong() []api.Probe {
	l := []api.Probe{{}, {Nonce: 5}, {To: 3, ToPort: 4}}
	l = append(l, spoilt(api.Probe{From: 1, FromPort: 2, To: 3, ToPort: 4, Nonce: 258})...)
	l = append(l, spoilt(api.Probe{From: 1, FromPort: 2, Nonce: 258})...)
	return append(l, halfFound()...)
}

// spoilt are the probe with one of its numbers turned to what may not stand there.
func spoilt(p api.Probe) []api.Probe {
	var l []api.Probe
	for _, place := range []struct {
		of   func(p *api.Probe) *int
		near []int
	}{
		{func(p *api.Probe) *int { return &p.From }, []int{0, 7, 8, 255, 256, 257, 262}},
		{func(p *api.Probe) *int { return &p.FromPort }, []int{0, 5, 6, 7, 255, 256, 257, 260}},
		{func(p *api.Probe) *int { return &p.To }, []int{7, 8, 255, 256, 257, 262}},
		{func(p *api.Probe) *int { return &p.ToPort }, []int{5, 6, 7, 255, 256, 257, 260}},
		{func(p *api.Probe) *int { return &p.Nonce }, nil},
	} {
		for _, n := range slices.Concat(place.near, outside) {
			q := p
			*place.of(&q) = n
			l = append(l, q)
		}
	}
	return l
}

// halfFound are probes of which To is 0 and ToPort is not, or the other way round.
func halfFound() []api.Probe {
	var l []api.Probe
	for n := 1; n <= 6; n++ {
		l = append(l, api.Probe{From: 1, FromPort: 2, To: n}, api.Probe{From: 1, FromPort: 2, ToPort: n})
	}
	return l
}

// plainBody is a probe's body as the document says it.
func plainBody(p api.Probe) []byte {
	return []byte{byte(p.From), byte(p.FromPort), byte(p.To), byte(p.ToPort), byte(p.Nonce >> 8), byte(p.Nonce)}
}

// frame is a frame of a kind and a body.
func frame(t *testing.T, kind int, body ...byte) []byte {
	t.Helper()
	b, e := octet.Seal(kind, body)
	if e != api.OK {
		t.Fatalf("no frame of % x: error %d", body, e)
	}
	return b
}

// written is the bytes of a probe that may be.
func written(t *testing.T, p api.Probe) []byte {
	t.Helper()
	b, e := probe.Bytes(p)
	if e != api.OK {
		t.Fatalf("%+v: error %d", p, e)
	}
	return b
}

// reads fails unless that probe is read of the bytes.
func reads(t *testing.T, b []byte, want api.Probe) {
	t.Helper()
	if p, e := probe.Parse(b); e != api.OK || p != want {
		t.Errorf("read %+v of % x, error %d; asked for %+v", p, b, e, want)
	}
}

// refuses fails unless the bytes are refused by that error, and nothing is read of them.
func refuses(t *testing.T, b []byte, want api.Errno) {
	t.Helper()
	if p, e := probe.Parse(b); e != want || p != (api.Probe{}) {
		t.Errorf("read %+v of % x, error %d; asked for error %d", p, b, e, want)
	}
}

// notFound fails unless Found answers that error, and no probe.
func notFound(t *testing.T, p api.Probe, to, port int, want api.Errno) {
	t.Helper()
	if got, e := probe.Found(p, to, port); e != want || got != (api.Probe{}) {
		t.Errorf("%+v, found at %d, %d: %+v, error %d; asked for error %d", p, to, port, got, e, want)
	}
}

// same fails unless the bytes are those.
func same(t *testing.T, got, want []byte) {
	t.Helper()
	if !bytes.Equal(got, want) {
		t.Errorf("% x, asked for % x", got, want)
	}
}
