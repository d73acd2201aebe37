package seg_test

import (
	"bytes"
	"testing"

	"catenary/api"
	"catenary/seg"
)

// told is the segment that a body tells, whether it may be or not: nothing, if it is too short or too long.
func told(b []byte) (s api.Seg, is bool) {
	if len(b) < 18 || len(b) != 18+int(b[16])<<8+int(b[17]) {
		return s, false
	}
	long := func(b []byte) int { return int(b[0])<<24 | int(b[1])<<16 | int(b[2])<<8 | int(b[3]) }
	return api.Seg{
		Kind: int(b[0]), To: int(b[1]), From: int(b[2]), Hops: int(b[3]),
		Epoch: long(b[4:]), Boot: long(b[8:]),
		Seq: int(b[12])<<8 | int(b[13]), Ack: int(b[14])<<8 | int(b[15]),
		B: b[18:],
	}, true
}

// readsOrRefuses fails unless the frame of the body is read as what it tells, and has just these bytes, or is refused, if that may not be.
func readsOrRefuses(t *testing.T, body []byte) {
	t.Helper()
	b := frame(t, 3, body...)
	if s, is := told(body); is && mayBe(s) {
		reads(t, b, s)
		same(t, written(t, s), b)
	} else {
		refuses(t, b, api.ErrForm)
	}
}

// P5.2: segments of each kind and way are read.
func TestParse(t *testing.T) {
	for _, c := range samples {
		reads(t, frame(t, 3, c.body...), c.s)
	}
}

// P5.2: a frame that does not open has octet's error, whatever stands in it.
func TestFramesThatDoNotOpen(t *testing.T) {
	refuses(t, nil, api.ErrTrunc)
	refuses(t, []byte{}, api.ErrTrunc)
	refuses(t, []byte{3}, api.ErrTrunc)
	refuses(t, make([]byte, 512), api.ErrSum)
	refuses(t, make([]byte, 513), api.ErrLimit)
	for _, c := range samples {
		whole := written(t, c.s)
		refuses(t, whole[:2], api.ErrTrunc)
		for n := 3; n < len(whole); n++ {
			refuses(t, whole[:n], api.ErrSum)
		}
		refuses(t, append(bytes.Clone(whole), 9), api.ErrSum)
		refuses(t, append([]byte{9}, whole...), api.ErrSum)
		refuses(t, append(bytes.Clone(whole), make([]byte, 513-len(whole))...), api.ErrLimit)
		other := frame(t, 2, c.body...)
		other[len(other)-1] ^= 1 // of another kind, and the sum is another one: the sum is looked at first
		refuses(t, other, api.ErrSum)
	}
}

// P5.2: a frame of any other kind is no segment's.
func TestOtherKindsOfFrames(t *testing.T) {
	for kind := range 256 {
		for _, c := range samples {
			b := frame(t, kind, c.body...)
			if kind == 3 {
				reads(t, b, c.s)
			} else {
				refuses(t, b, api.ErrForm)
			}
		}
	}
}

// P5.2: a body that is too short or too long for what it tells is none's.
func TestBodiesOfOtherLengths(t *testing.T) {
	for _, c := range samples {
		long := append(bytes.Clone(c.body), make([]byte, 509-len(c.body))...)
		for n := range 510 {
			b := frame(t, 3, long[:n]...)
			if n == len(c.body) {
				reads(t, b, c.s)
			} else {
				refuses(t, b, api.ErrForm)
			}
		}
		refuses(t, frame(t, 3, written(t, c.s)...), api.ErrForm)
	}
}

// P5.2, P5.4: messages of all lengths that a frame has room for: those of 1 to 256 bytes are read.
func TestMessagesOfAllLengths(t *testing.T) {
	for n := range 492 {
		body := append(bytes.Clone(samples[5].body[:16]), byte(n>>8), byte(n))
		body = append(body, row(n)...)
		readsOrRefuses(t, body)
		for _, other := range []int{n - 1, n + 1, n + 256, 65535} {
			body[16], body[17] = byte(other>>8), byte(other)
			refuses(t, frame(t, 3, body...), api.ErrForm)
		}
	}
}

// P5.2, P5.4: what each place may tell, and what not: just the segments that may be are read, and those have just these bytes.
func TestAllBytesOfAPlace(t *testing.T) {
	for _, c := range samples {
		for place := range c.body {
			for value := range 256 {
				body := bytes.Clone(c.body)
				body[place] = byte(value)
				readsOrRefuses(t, body)
			}
		}
	}
}

// P5.2, P5.4: two places at once, so that a kind meets what others have.
func TestAllBytesOfTwoPlaces(t *testing.T) {
	for _, c := range samples {
		for first := range c.body {
			for second := range first {
				for _, x := range []byte{0, 1, 2, 3, 4, 5, 6, 12, 13, 255} {
					for _, y := range []byte{0, 1, 3, 4, 5, 6, 7} {
						body := bytes.Clone(c.body)
						body[first], body[second] = x, y
						readsOrRefuses(t, body)
					}
				}
			}
		}
	}
}

// P5.2: bodies of segments that may not be.
func TestBodiesThatMayNotBe(t *testing.T) {
	for _, s := range []api.Seg{
		{}, {To: 3}, {Kind: 6, To: 3}, {Kind: 255, To: 3, Epoch: 1},
		{Kind: 1}, {Kind: 1, From: 3}, {Kind: 1, To: 3, From: 3}, {Kind: 1, To: 7}, {Kind: 1, To: 3, Hops: 13},
		{Kind: 1, To: 3, Epoch: 1}, {Kind: 1, To: 3, Boot: 1}, {Kind: 1, To: 3, Seq: 1}, {Kind: 1, To: 3, Ack: 1}, {Kind: 1, To: 3, B: []byte{1}},
		{Kind: 2, To: 3}, {Kind: 2, From: 3, Epoch: 1}, {Kind: 2, From: 3, Seq: 1}, {Kind: 2, From: 3, Ack: 1}, {Kind: 2, From: 3, B: []byte{1}},
		{Kind: 3, To: 3}, {Kind: 3, From: 3, Epoch: 1}, {Kind: 3, To: 3, Epoch: 1, Seq: 1}, {Kind: 3, To: 3, Epoch: 1, Ack: 1}, {Kind: 3, To: 3, Epoch: 1, B: []byte{1}},
		{Kind: 4, To: 3}, {Kind: 4, Epoch: 1}, {Kind: 4, To: 3, Epoch: 1, Boot: 1}, {Kind: 4, To: 3, Epoch: 1, Seq: 1}, {Kind: 4, To: 3, Epoch: 1, B: []byte{1}},
		{Kind: 5, To: 3, B: []byte{1}}, {Kind: 5, Epoch: 1, B: []byte{1}}, {Kind: 5, To: 3, Epoch: 1}, {Kind: 5, To: 3, Epoch: 1, Boot: 1, B: []byte{1}}, {Kind: 5, To: 3, Epoch: 1, Ack: 1, B: []byte{1}},
		{Kind: 5, To: 3, Epoch: 1, B: row(257)}, {Kind: 5, To: 3, From: 3, Epoch: 1, B: []byte{1}},
	} {
		refuses(t, frame(t, 3, plainBody(s)...), api.ErrForm)
		wrong(t, s)
	}
}

// P5.3: the bytes are only read, their spare room neither written, whether they are a segment's or not.
func TestParseReadsAlone(t *testing.T) {
	good := written(t, samples[5].s)
	for _, l := range [][]byte{good, written(t, samples[0].s), frame(t, 1, samples[5].body...), frame(t, 3, 1, 2), good[:8], {3}} {
		b, room := roomy(l)
		was := bytes.Clone(room)
		s, _ := seg.Parse(b)
		overwrite(s.B)
		same(t, room, was)
	}
}

// P5.3: what is read stays as it is, whatever becomes of the bytes, or of what else is read of them.
func TestWhatIsReadIsNewMemory(t *testing.T) {
	for _, c := range samples {
		b := written(t, c.s)
		first, _ := seg.Parse(b)
		second, _ := seg.Parse(b)
		overwrite(first.B)
		if unlike(second, c.s) {
			t.Errorf("it became %+v", second)
		}
		overwrite(b)
		if unlike(second, c.s) {
			t.Errorf("it became %+v", second)
		}
	}
}

// P5.5: bytes of which bits of one byte are turned are none's.
func TestTurnedBits(t *testing.T) {
	l := []api.Seg{{Kind: 5, From: 6, Hops: 12, Epoch: lastLong, Seq: lastShort, B: row(256)}}
	for _, c := range samples {
		l = append(l, c.s)
	}
	for _, s := range l {
		b := written(t, s)
		for place := range b {
			for bits := 1; bits < 256; bits++ {
				turned := bytes.Clone(b)
				turned[place] ^= byte(bits)
				refuses(t, turned, api.ErrSum)
			}
		}
	}
}
