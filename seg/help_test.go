package seg_test

import (
	"bytes"
	"math"
	"testing"

	"catenary/api"
	"catenary/octet"
	"catenary/seg"
)

// lastLong and lastShort are the greatest numbers of four bytes and of two.
const (
	lastLong  = 1<<32 - 1
	lastShort = 1<<16 - 1
)

// far are numbers that no place of a segment may tell.
var far = []int{-1, -2, -256, -65536, -1 << 32, 1 << 32, 1<<32 + 1, 1<<32 + 5, math.MinInt, math.MaxInt}

// samples are segments that may be, of each kind and way one or more, with their bytes' body.
var samples = []struct {
	s    api.Seg
	body []byte
}{
	{api.Seg{Kind: 1, To: 3, Hops: 12}, []byte{1, 3, 0, 12, 0, 0, 0, 0, 0, 0, 0, 0, 0, 0, 0, 0, 0, 0}},
	{api.Seg{Kind: 2, From: 6, Boot: 1<<24 + 2}, []byte{2, 0, 6, 0, 0, 0, 0, 0, 1, 0, 0, 2, 0, 0, 0, 0, 0, 0}},
	{api.Seg{Kind: 3, To: 2, Hops: 1, Epoch: 3, Boot: 4}, []byte{3, 2, 0, 1, 0, 0, 0, 3, 0, 0, 0, 4, 0, 0, 0, 0, 0, 0}},
	{api.Seg{Kind: 4, To: 5, Hops: 2, Epoch: 258, Ack: 772}, []byte{4, 5, 0, 2, 0, 0, 1, 2, 0, 0, 0, 0, 0, 0, 3, 4, 0, 0}},
	{api.Seg{Kind: 4, From: 1, Epoch: lastLong, Ack: lastShort}, []byte{4, 0, 1, 0, 255, 255, 255, 255, 0, 0, 0, 0, 0, 0, 255, 255, 0, 0}},
	{api.Seg{Kind: 5, To: 4, Hops: 7, Epoch: 9, Seq: 515, B: []byte{6, 5}}, []byte{5, 4, 0, 7, 0, 0, 0, 9, 0, 0, 0, 0, 2, 3, 0, 0, 0, 2, 6, 5}},
	{api.Seg{Kind: 5, From: 4, Hops: 7, Epoch: 1, B: []byte{0}}, []byte{5, 0, 4, 7, 0, 0, 0, 1, 0, 0, 0, 0, 0, 0, 0, 0, 0, 1, 0}},
}

// row is n bytes, none like its neighbours.
func row(n int) []byte {
	b := make([]byte, n)
	for i := range b {
		b[i] = byte(i*37 + 11)
	}
	return b
}

// mayBe tells whether a segment may be, kind by kind, as the document says it.
func mayBe(s api.Seg) bool {
	to := s.From == 0 && s.To >= 1 && s.To <= 6
	from := s.To == 0 && s.From >= 1 && s.From <= 6
	session := s.Epoch >= 1 && s.Epoch <= lastLong
	boot := s.Boot >= 0 && s.Boot <= lastLong
	short := func(n int) bool { return n >= 0 && n <= lastShort }
	bare := s.Seq == 0 && s.Ack == 0 && len(s.B) == 0
	if s.Hops < 0 || s.Hops > 12 {
		return false
	}
	switch s.Kind {
	case 1:
		return to && s.Epoch == 0 && s.Boot == 0 && bare
	case 2:
		return from && s.Epoch == 0 && boot && bare
	case 3:
		return to && session && boot && bare
	case 4:
		return (to || from) && session && s.Boot == 0 && s.Seq == 0 && short(s.Ack) && len(s.B) == 0
	case 5:
		return (to || from) && session && s.Boot == 0 && short(s.Seq) && s.Ack == 0 && len(s.B) >= 1 && len(s.B) <= 256
	}
	return false
}

// messages are some of lengths at the edges, none among them.
var messages = [][]byte{nil, {}, {7}, row(255), row(256), row(257), row(70000)}

// edges calls f with segments of all kinds, and some that are none, with each number at its edges and past them.
func edges(f func(s api.Seg)) {
	ends := []int{-1, 0, 1, 6, 7}
	longs := []int{-1, 0, 1, lastLong, lastLong + 1}
	shorts := []int{-1, 0, 1, lastShort, lastShort + 1}
	for kind := -1; kind <= 7; kind++ {
		for _, to := range ends {
			for _, from := range ends {
				for _, hops := range []int{-1, 0, 12, 13} {
					s := api.Seg{Kind: kind, To: to, From: from, Hops: hops}
					for _, s.Epoch = range longs {
						for _, s.Boot = range longs {
							for _, s.Seq = range shorts {
								s.Ack, s.B = 0, nil
								f(s)
								s.B = []byte{7}
								f(s)
							}
							s.Seq = 0
							for _, s.Ack = range shorts {
								for _, s.B = range messages {
									f(s)
								}
							}
						}
					}
				}
			}
		}
	}
}

// fields are pointers to a segment's numbers, in the order of its bytes.
func fields(s *api.Seg) []*int {
	return []*int{&s.Kind, &s.To, &s.From, &s.Hops, &s.Epoch, &s.Boot, &s.Seq, &s.Ack}
}

// plainBody is a segment's body as the document says it.
func plainBody(s api.Seg) []byte {
	b := []byte{byte(s.Kind), byte(s.To), byte(s.From), byte(s.Hops)}
	for _, n := range []int{s.Epoch, s.Boot} {
		b = append(b, byte(n>>24), byte(n>>16), byte(n>>8), byte(n))
	}
	for _, n := range []int{s.Seq, s.Ack, len(s.B)} {
		b = append(b, byte(n>>8), byte(n))
	}
	return append(b, s.B...)
}

// frame is a frame of a kind and a body.
func frame(t *testing.T, kind int, body ...byte) []byte {
	t.Helper()
	b, e := octet.Seal(kind, body)
	if e != api.OK {
		t.Fatalf("no frame of % x: error %d", body, e)
	}
	return b
}

// written is the bytes of a segment that may be.
func written(t *testing.T, s api.Seg) []byte {
	t.Helper()
	b, e := seg.Bytes(s)
	if e != api.OK {
		t.Fatalf("%+v: error %d", s, e)
	}
	return b
}

// unlike tells whether two segments differ, without asking seg.Same.
func unlike(a, b api.Seg) bool {
	x, y := fields(&a), fields(&b)
	for i := range x {
		if *x[i] != *y[i] {
			return true
		}
	}
	return !bytes.Equal(a.B, b.B)
}

// reads fails unless that segment is read of the bytes.
func reads(t *testing.T, b []byte, want api.Seg) {
	t.Helper()
	if s, e := seg.Parse(b); e != api.OK || unlike(s, want) {
		t.Errorf("read %+v of % x, error %d; asked for %+v", s, b, e, want)
	}
}

// refuses fails unless the bytes are refused by that error, and nothing is read of them.
func refuses(t *testing.T, b []byte, want api.Errno) {
	t.Helper()
	if s, e := seg.Parse(b); e != want || unlike(s, api.Seg{}) {
		t.Errorf("read %+v of % x, error %d; asked for error %d", s, b, e, want)
	}
}

// same fails unless the bytes are those.
func same(t *testing.T, got, want []byte) {
	t.Helper()
	if !bytes.Equal(got, want) {
		t.Errorf("% x, asked for % x", got, want)
	}
}

// roomy is the bytes with spare room behind them, and both together.
func roomy(l []byte) (b, room []byte) {
	room = append(bytes.Clone(l), bytes.Repeat([]byte{0xEE}, 300)...)
	return room[:len(l)], room
}

// overwrite writes to all bytes, those of the spare room, too.
func overwrite(b []byte) {
	b = b[:cap(b)]
	for i := range b {
		b[i] = 0xAA
	}
}
