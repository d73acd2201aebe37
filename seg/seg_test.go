package seg_test

import (
	"bytes"
	"testing"

	"catenary/api"
	"catenary/seg"
)

// wrong fails unless Check and Bytes refuse the segment, and nothing is answered.
func wrong(t *testing.T, s api.Seg) {
	t.Helper()
	if e := seg.Check(s); e != api.ErrArg {
		t.Errorf("%+v: error %d", s, e)
	}
	if b, e := seg.Bytes(s); e != api.ErrArg || len(b) != 0 {
		t.Errorf("%+v: % x, error %d", s, b, e)
	}
}

// P5.1: the document's own examples.
func TestExamples(t *testing.T) {
	b := written(t, api.Seg{Kind: api.SegSyn, To: 2, Hops: 1, Epoch: 3, Boot: 4})
	if len(b) != 21 {
		t.Fatalf("% x", b)
	}
	same(t, b[:19], []byte{3, 3, 2, 0, 1, 0, 0, 0, 3, 0, 0, 0, 4, 0, 0, 0, 0, 0, 0})
	wrong(t, api.Seg{Kind: api.SegHello, From: 2})
	wrong(t, api.Seg{Kind: api.SegAck, To: 2})
	wrong(t, api.Seg{Kind: api.SegAck, From: 2, Ack: 1})
	wrong(t, api.Seg{Kind: api.SegData, To: 2, Epoch: 1})
	wrong(t, api.Seg{Kind: api.SegHi, From: 2, Epoch: 1})
}

// P5.1: segments of each kind and way are a frame of the kind 3, of just these bytes.
func TestBytes(t *testing.T) {
	for _, c := range samples {
		if e := seg.Check(c.s); e != api.OK {
			t.Errorf("%+v: error %d", c.s, e)
		}
		same(t, written(t, c.s), frame(t, 3, c.body...))
	}
}

// P5.1: what may be, and what not, of each kind with each number at its edges and past them.
func TestEdges(t *testing.T) {
	fit := 0
	edges(func(s api.Seg) {
		want := api.ErrArg
		if mayBe(s) {
			want = api.OK
			fit++
		}
		if e := seg.Check(s); e != want {
			t.Fatalf("%+v, %d bytes: error %d, asked for %d", s, len(s.B), e, want)
		}
	})
	if fit == 0 {
		t.Error("none of them may be")
	}
}

// P5.1, P5.4: what may be of those at the edges has bytes, and is read of them as it was; what may not be has none.
func TestEdgesWritten(t *testing.T) {
	at := 0
	edges(func(s api.Seg) {
		at++
		if mayBe(s) {
			b := written(t, s)
			same(t, b, frame(t, 3, plainBody(s)...))
			reads(t, b, s)
		} else if at%41 == 0 {
			wrong(t, s)
		}
	})
}

// P5.1: no place takes numbers that are far outside, nor those that would be the same in its bytes.
func TestFarOutside(t *testing.T) {
	wrong(t, api.Seg{})
	for _, c := range samples {
		for place := range fields(&c.s) {
			for _, n := range far {
				s := c.s
				*fields(&s)[place] = n
				wrong(t, s)
			}
			for _, shift := range []int{8, 16, 32} {
				s := c.s
				*fields(&s)[place] += 1 << shift
				if !mayBe(s) {
					wrong(t, s)
				}
			}
		}
	}
}

// P5.1: one end is a switch, the other one the controller: of each kind, which numbers may stand at the ends.
func TestEnds(t *testing.T) {
	for _, c := range samples {
		for to := -3; to <= 9; to++ {
			for from := -3; from <= 9; from++ {
				s := c.s
				s.To, s.From = to, from
				if e := seg.Check(s); (e == api.OK) != mayBe(s) {
					t.Errorf("%+v: error %d", s, e)
				}
			}
		}
	}
}

// P5.1: all hops, up to the last ones that may be and past them.
func TestHops(t *testing.T) {
	for _, c := range samples {
		for hops := -300; hops <= 300; hops++ {
			s := c.s
			s.Hops = hops
			if e := seg.Check(s); (e == api.OK) != (hops >= 0 && hops <= 12) {
				t.Errorf("%+v: error %d", s, e)
			}
		}
	}
}

// P5.1: messages have from 1 to 256 bytes, and none but SegData has one.
func TestMessages(t *testing.T) {
	for _, c := range samples {
		for n := range 600 {
			s := c.s
			s.B = row(n)
			if e := seg.Check(s); (e == api.OK) != mayBe(s) {
				t.Errorf("kind %d, %d bytes: error %d", s.Kind, n, e)
			}
			if s.Kind == api.SegData && n >= 1 && n <= 256 {
				reads(t, written(t, s), s)
			}
		}
	}
}

// P5.1: segments are the same, if all their fields are, whether they may be or not.
func TestSame(t *testing.T) {
	l := []api.Seg{{}, {Kind: -1, To: 9, From: 9, Hops: -5, Epoch: -1, Boot: -1, Seq: -1, Ack: -1, B: row(300)}}
	for _, c := range samples {
		l = append(l, c.s)
	}
	for i, a := range l {
		for j, b := range l {
			b.B = bytes.Clone(b.B)
			if seg.Same(a, b) != (i == j) {
				t.Errorf("%+v and %+v: %v", a, b, i != j)
			}
		}
		for place := range fields(&a) {
			b := a
			*fields(&b)[place]++
			if seg.Same(a, b) || seg.Same(b, a) {
				t.Errorf("%+v and %+v are the same", a, b)
			}
		}
	}
}

// P5.1: two whose numbers stand in each other's places are not the same.
func TestSameOfNumbersThatChangePlaces(t *testing.T) {
	a := api.Seg{Kind: 1, To: 2, From: 3, Hops: 4, Epoch: 5, Boot: 6, Seq: 7, Ack: 8}
	for i := range 8 {
		for j := range i {
			b := a
			x, y := fields(&b)[i], fields(&b)[j]
			*x, *y = *y, *x
			if seg.Same(a, b) {
				t.Errorf("%+v and %+v are the same", a, b)
			}
		}
	}
}

// P5.1: messages are the same byte by byte; one that is none is as one that is empty, whatever stands in spare room.
func TestSameMessages(t *testing.T) {
	long, _ := roomy([]byte{1, 2})
	l := [][]byte{nil, {0}, {1}, {1, 2}, {2, 1}, {1, 2, 0}, {1, 2, 0xEE}, row(256), row(257)}
	for i, x := range l {
		for j, y := range l {
			a, b := api.Seg{Kind: 5, B: x}, api.Seg{Kind: 5, B: bytes.Clone(y)}
			if seg.Same(a, b) != (i == j) {
				t.Errorf("% x and % x: %v", x, y, i != j)
			}
		}
	}
	none, empty := api.Seg{Kind: 4}, api.Seg{Kind: 4, B: long[:0]}
	if !seg.Same(none, empty) || !seg.Same(empty, none) || !seg.Same(empty, api.Seg{Kind: 4, B: []byte{}}) {
		t.Error("no bytes are not as empty ones")
	}
	if !seg.Same(api.Seg{B: long}, api.Seg{B: []byte{1, 2}}) {
		t.Error("the spare room counts")
	}
}

// P5.1, P5.4: empty bytes where a kind has none may be, and are written as none.
func TestEmptyMessages(t *testing.T) {
	for _, c := range samples {
		if c.s.Kind != api.SegData {
			s := c.s
			s.B = []byte{}
			same(t, written(t, s), frame(t, 3, c.body...))
		}
	}
}

// P5.3: a segment that is handed in is only read, its message's spare room neither written, nor kept.
func TestSegmentsAreOnlyRead(t *testing.T) {
	b, room := roomy([]byte{6, 5})
	was := bytes.Clone(room)
	s := api.Seg{Kind: 5, To: 4, Hops: 7, Epoch: 9, Seq: 515, B: b}
	before := s
	seg.Check(s)
	seg.Same(s, samples[5].s)
	seg.Same(samples[5].s, s)
	out := written(t, s)
	overwrite(out)
	seg.Bytes(api.Seg{Kind: 4, B: b})
	same(t, room, was)
	if unlike(s, before) || len(s.B) != 2 {
		t.Errorf("it became %+v", s)
	}
	out = written(t, s)
	want := bytes.Clone(out)
	overwrite(room)
	same(t, out, want)
}

// P5.3: what is answered is new memory: two answers share nothing.
func TestAnswersShareNothing(t *testing.T) {
	for _, c := range samples {
		want := frame(t, 3, c.body...)
		first, second := written(t, c.s), written(t, c.s)
		overwrite(first)
		same(t, second, want)
		same(t, written(t, c.s), want)
	}
}

// P5.4: no two segments have the same bytes.
func TestNoTwoHaveTheSameBytes(t *testing.T) {
	seen := map[string]api.Seg{}
	edges(func(s api.Seg) {
		if !mayBe(s) {
			return
		}
		b := string(written(t, s))
		if other, ok := seen[b]; ok && !seg.Same(s, other) {
			t.Errorf("%+v and %+v have the same bytes", s, other)
		}
		seen[b] = s
	})
}
