package probe_test

import (
	"bytes"
	"testing"

	"catenary/api"
	"catenary/probe"
)

// P4.2: a frame that does not open has octet's error, whatever stands in it.
func TestFramesThatDoNotOpen(t *testing.T) {
	whole := written(t, example)
	refuses(t, nil, api.ErrTrunc)
	refuses(t, []byte{}, api.ErrTrunc)
	refuses(t, []byte{2}, api.ErrTrunc)
	refuses(t, whole[:2], api.ErrTrunc)
	for n := 3; n < len(whole); n++ {
		refuses(t, whole[:n], api.ErrSum)
	}
	refuses(t, append(bytes.Clone(whole), 9), api.ErrSum)
	refuses(t, append([]byte{9}, whole...), api.ErrSum)
	refuses(t, make([]byte, 512), api.ErrSum)
	refuses(t, make([]byte, 513), api.ErrLimit)
	refuses(t, append(bytes.Clone(whole), make([]byte, 504)...), api.ErrLimit)
	other := frame(t, 3, exampleBytes[1:]...)
	other[8] ^= 1 // of another kind, and the sum is another one: the sum is looked at first
	refuses(t, other, api.ErrSum)
}

// P4.2: a frame of any other kind is no probe's.
func TestOtherKinds(t *testing.T) {
	for kind := range 256 {
		b := frame(t, kind, exampleBytes[1:]...)
		if kind == 2 {
			reads(t, b, example)
		} else {
			refuses(t, b, api.ErrForm)
		}
	}
}

// P4.2: a body that is too short or too long is none's.
func TestBodiesOfOtherLengths(t *testing.T) {
	long := append(exampleBytes[1:7:7], make([]byte, 503)...)
	for n := range 510 {
		b := frame(t, 2, long[:n]...)
		if n == 6 {
			reads(t, b, example)
		} else {
			refuses(t, b, api.ErrForm)
		}
	}
	refuses(t, frame(t, 2, written(t, example)...), api.ErrForm)
}

// P4.2, P4.5: what each place may tell, and what not: just the probes that may be are read, and those have just these bytes.
func TestAllBytesOfAPlace(t *testing.T) {
	for _, p := range []api.Probe{example, {From: 6, FromPort: 4, Nonce: 65535}} {
		for place := range 6 {
			for value := range 256 {
				body := plainBody(p)
				body[place] = byte(value)
				b := frame(t, 2, body...)
				want := api.Probe{
					From: int(body[0]), FromPort: int(body[1]), To: int(body[2]), ToPort: int(body[3]),
					Nonce: int(body[4])<<8 | int(body[5]),
				}
				if probe.Check(want) == api.OK {
					reads(t, b, want)
					same(t, written(t, want), b)
				} else {
					refuses(t, b, api.ErrForm)
				}
			}
		}
	}
}

// P4.2: bodies of probes that may not be, at the edges.
func TestBodiesThatMayNotBe(t *testing.T) {
	for _, body := range [][]byte{
		{0, 2, 3, 4, 1, 2}, {7, 2, 3, 4, 1, 2},
		{1, 0, 3, 4, 1, 2}, {1, 5, 3, 4, 1, 2},
		{1, 2, 0, 4, 1, 2}, {1, 2, 7, 4, 1, 2},
		{1, 2, 3, 0, 1, 2}, {1, 2, 3, 5, 1, 2},
		{0, 0, 0, 0, 0, 0}, {255, 255, 255, 255, 255, 255},
	} {
		refuses(t, frame(t, 2, body...), api.ErrForm)
	}
	reads(t, frame(t, 2, 1, 1, 0, 0, 0, 0), api.Probe{From: 1, FromPort: 1})
	reads(t, frame(t, 2, 6, 4, 6, 4, 255, 255), api.Probe{From: 6, FromPort: 4, To: 6, ToPort: 4, Nonce: 65535})
}

// P4.4: the bytes are only read, their spare room neither written, whether they are a probe's or not.
func TestParseReadsAlone(t *testing.T) {
	good := written(t, example)
	for _, b := range [][]byte{good, frame(t, 3, exampleBytes[1:]...), frame(t, 2, 1, 2), good[:8], {2}} {
		roomy := append(make([]byte, 0, len(b)+40), b...)
		room := roomy[:cap(roomy)]
		for i := len(b); i < len(room); i++ {
			room[i] = 0xEE
		}
		was := bytes.Clone(room)
		probe.Parse(roomy)
		same(t, room, was)
	}
}
