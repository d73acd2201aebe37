package datum_test

import (
	"bytes"
	"testing"

	"catenary/api"
	"catenary/datum"
)

// P3.2: a frame that does not open has octet's error, whatever stands in it.
func TestFramesThatDoNotOpen(t *testing.T) {
	whole := written(t, example)
	refuses(t, nil, api.ErrTrunc)
	refuses(t, []byte{1}, api.ErrTrunc)
	refuses(t, whole[:2], api.ErrTrunc)
	for n := 3; n < len(whole); n++ {
		refuses(t, whole[:n], api.ErrSum)
	}
	refuses(t, append(bytes.Clone(whole), 9), api.ErrSum)
	refuses(t, append([]byte{9}, whole...), api.ErrSum)
	refuses(t, make([]byte, 512), api.ErrSum)
	refuses(t, make([]byte, 513), api.ErrLimit)
	refuses(t, append(bytes.Clone(whole), make([]byte, 501)...), api.ErrLimit)
	other := frame(t, 2, exampleBytes[1:]...)
	other[11] ^= 1 // of another kind, and the sum is another one: the sum is looked at first
	refuses(t, other, api.ErrSum)
}

// P3.2: a frame of any other kind is no datum's.
func TestOtherKinds(t *testing.T) {
	for kind := range 256 {
		b := frame(t, kind, exampleBytes[1:]...)
		if kind == 1 {
			reads(t, b, example)
		} else {
			refuses(t, b, api.ErrForm)
		}
	}
}

// P3.2: a body that is too short or too long is none's.
func TestBodiesOfOtherLengths(t *testing.T) {
	long := append(exampleBytes[1:10:10], make([]byte, 500)...)
	for n := range 510 {
		b := frame(t, 1, long[:n]...)
		if n == 9 {
			reads(t, b, example)
		} else {
			refuses(t, b, api.ErrForm)
		}
	}
	refuses(t, frame(t, 1, written(t, example)...), api.ErrForm)
}

// P3.2, P3.4: all versions and hops that a body can tell: those that may be are read, the others are refused.
func TestAllVersionsAndHopsRead(t *testing.T) {
	for ver := range 256 {
		for hops := range 256 {
			b := frame(t, 1, byte(ver), byte(hops), 255, 0, 1, 2, 9, 8, 7)
			if ver > 200 || hops > 12 {
				refuses(t, b, api.ErrForm)
			} else {
				reads(t, b, api.Datum{Ver: ver, Hops: hops, Id: 0xFF000102, H: api.Header{9, 8, 7}})
			}
		}
	}
}

// P3.2: numbers that may not be, at both edges.
func TestBodiesThatMayNotBe(t *testing.T) {
	refuses(t, frame(t, 1, 201, 3, 0, 0, 0, 4, 5, 6, 7), api.ErrForm)
	refuses(t, frame(t, 1, 255, 255, 255, 255, 255, 255, 255, 255, 255), api.ErrForm)
	refuses(t, frame(t, 1, 2, 13, 0, 0, 0, 4, 5, 6, 7), api.ErrForm)
	reads(t, frame(t, 1, 200, 12, 255, 255, 255, 255, 255, 255, 255), api.Datum{Ver: 200, Hops: 12, Id: 1<<32 - 1, H: api.Header{255, 255, 255}})
	reads(t, frame(t, 1, 0, 0, 0, 0, 0, 0, 0, 0, 0), api.Datum{})
}

// P3.3: the bytes are only read, their spare room neither written, whether they are a datum's or not.
func TestParseReadsAlone(t *testing.T) {
	good := written(t, example)
	for _, b := range [][]byte{good, frame(t, 2, exampleBytes[1:]...), frame(t, 1, 1, 2), good[:11], {1}} {
		roomy := append(make([]byte, 0, len(b)+40), b...)
		room := roomy[:cap(roomy)]
		for i := len(b); i < len(room); i++ {
			room[i] = 0xEE
		}
		was := bytes.Clone(room)
		datum.Parse(roomy)
		same(t, room, was)
	}
}

// P3.4: what can be read has just the bytes that it was read of: of all bytes put into each place, under a sum that fits.
func TestJustTheseBytes(t *testing.T) {
	for place := range 10 {
		for value := range 256 {
			head := bytes.Clone(exampleBytes)
			head[place] = byte(value)
			b := frame(t, int(head[0]), head[1:]...)
			if d, e := datum.Parse(b); e == api.OK {
				same(t, written(t, d), b)
			}
		}
	}
}

// P3.5: bytes of which bits of one byte are turned are none's.
func TestTurnedBits(t *testing.T) {
	for i, d := range some() {
		if i%17 != 0 && d != example {
			continue
		}
		b := written(t, d)
		for place := range b {
			for bits := 1; bits < 256; bits++ {
				turned := bytes.Clone(b)
				turned[place] ^= byte(bits)
				refuses(t, turned, api.ErrSum)
			}
		}
	}
}
