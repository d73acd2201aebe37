package datum_test

import (
	"bytes"
	"math"
	"testing"

	"catenary/api"
	"catenary/datum"
	"catenary/octet"
)

// some are data that may be: ordinary ones, and such at the edges of what may be.
func some() []api.Datum {
	var l []api.Datum
	for _, ver := range []int{0, 1, 2, 127, 128, 199, 200} {
		for _, hops := range []int{0, 1, 3, 11, 12} {
			for _, id := range []int{0, 1, 4, 255, 256, 65536, 0x01020304, 1<<31 - 1, 1 << 31, 1<<32 - 1} {
				for _, h := range []api.Header{{}, {5, 6, 7}, {255, 0, 128}, {255, 255, 255}} {
					l = append(l, api.Datum{Ver: ver, Hops: hops, Id: id, H: h})
				}
			}
		}
	}
	return l
}

// wrong are data that may not be, each in one number or more.
func wrong() []api.Datum {
	var l []api.Datum
	for _, ver := range []int{-1, -200, 201, 255, 256, 257, 1 << 32, math.MinInt, math.MaxInt} {
		l = append(l, api.Datum{Ver: ver, Hops: 3, Id: 4, H: api.Header{5, 6, 7}}, api.Datum{Ver: ver, Hops: 13, Id: -1})
	}
	for _, hops := range []int{-1, -12, 13, 14, 255, 256, 268, 1 << 32, math.MinInt, math.MaxInt} {
		l = append(l, api.Datum{Ver: 2, Hops: hops, Id: 4, H: api.Header{5, 6, 7}}, api.Datum{Hops: hops})
	}
	for _, id := range []int{-1, -1 << 31, -1 << 32, 1 << 32, 1<<32 + 1, 1 << 33, math.MinInt, math.MaxInt} {
		l = append(l, api.Datum{Ver: 2, Hops: 3, Id: id, H: api.Header{5, 6, 7}}, api.Datum{Id: id})
	}
	return l
}

// plainBody is a datum's body as the document says it.
func plainBody(d api.Datum) []byte {
	return []byte{
		byte(d.Ver), byte(d.Hops),
		byte(d.Id >> 24), byte(d.Id >> 16), byte(d.Id >> 8), byte(d.Id),
		d.H[0], d.H[1], d.H[2],
	}
}

// frame is a frame of a kind and a body.
func frame(t *testing.T, kind int, body ...byte) []byte {
	t.Helper()
	b, e := octet.Seal(kind, body)
	if e != api.OK {
		t.Fatalf("no frame of % x: error %d", body, e)
	}
	return b
}

// written is the bytes of a datum that may be.
func written(t *testing.T, d api.Datum) []byte {
	t.Helper()
	b, e := datum.Bytes(d)
	if e != api.OK {
		t.Fatalf("%+v: error %d", d, e)
	}
	return b
}

// reads fails unless that datum is read of the bytes.
func reads(t *testing.T, b []byte, want api.Datum) {
	t.Helper()
	if d, e := datum.Parse(b); e != api.OK || d != want {
		t.Errorf("read %+v of % x, error %d; asked for %+v", d, b, e, want)
	}
}

// refuses fails unless the bytes are refused by that error, and nothing is read of them.
func refuses(t *testing.T, b []byte, want api.Errno) {
	t.Helper()
	if d, e := datum.Parse(b); e != want || d != (api.Datum{}) {
		t.Errorf("read %+v of % x, error %d; asked for error %d", d, b, e, want)
	}
}

// overwrite writes to a list and its spare room.
func overwrite(b []byte) {
	b = b[:cap(b)]
	for i := range b {
		b[i] = 0xAA
	}
}

// same fails unless the bytes are those.
func same(t *testing.T, got, want []byte) {
	t.Helper()
	if !bytes.Equal(got, want) {
		t.Errorf("% x, asked for % x", got, want)
	}
}
