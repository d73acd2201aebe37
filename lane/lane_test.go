package lane_test

import (
	"bytes"
	"slices"
	"testing"

	"catenary/api"
	"catenary/lane"
)

// P11.1 to P11.3: the document's own examples.
func TestExamples(t *testing.T) {
	a, b, c := []byte("a"), []byte("b"), []byte("c")
	l := made(t, 2)
	put(t, l, a, api.OK)
	put(t, l, b, api.OK)
	put(t, l, c, api.ErrFull)
	has(t, l, a, b)
	errs(t, l.Front(1), api.OK)
	has(t, l, b, a)
	errs(t, l.Double(0), api.ErrFull)
	errs(t, l.Drop(0), api.OK)
	errs(t, l.Double(0), api.OK)
	has(t, l, a, a)
	takes(t, l, a, true)
	takes(t, l, a, true)
	takes(t, l, nil, false)

	refused(t, 0)
	refused(t, 65)
	errs(t, made(t, 1).Front(0), api.ErrRange)
}

// P11.1: a room is from 1 to 64; so many frames are put, and no more, and none was there ahead.
func TestNew(t *testing.T) {
	for _, room := range slices.Concat(below0, []int{0}, far) {
		refused(t, room)
	}
	for room := 1; room <= 64; room++ {
		l, p := made(t, room), &plain{room: room}
		agree(t, l, p)
		takes(t, l, nil, false)
		for i := range room {
			put(t, l, frame(i), api.OK)
			p.put(frame(i))
			agree(t, l, p)
		}
		put(t, l, frame(room), api.ErrFull)
		put(t, l, nil, api.ErrFull)
		agree(t, l, p)
		drained(t, l, p)
	}
}

// P11.1: a frame has 512 bytes at most, none at the least; one that is too long is told so, whether there is room or not, and changes nothing.
func TestPutLengths(t *testing.T) {
	for _, n := range []int{0, 1, 2, 255, 256, 257, 511, 512, 513, 514, 768, 1024, 65536, 65536 + 5, 1 << 20} {
		l, p := filled(t, 3, 1)
		long := bytes.Repeat([]byte{7}, n)
		for range 3 {
			put(t, l, long, p.put(long))
			agree(t, l, p)
		}
		drained(t, l, p)
	}
}

// P11.1, P11.2: a frame without bytes is one, nil or not: it is there, is doubled, and taken.
func TestFrameWithoutBytes(t *testing.T) {
	for _, none := range [][]byte{nil, {}, make([]byte, 0, 4)} {
		l := made(t, 3)
		put(t, l, none, api.OK)
		put(t, l, frame(1), api.OK)
		errs(t, l.Double(0), api.OK)
		has(t, l, nil, frame(1), nil)
		errs(t, l.Front(1), api.OK)
		takes(t, l, frame(1), true)
		takes(t, l, nil, true)
		takes(t, l, nil, true)
		takes(t, l, nil, false)
	}
}

// P11.2: the first one is taken, and goes; where it was there is room again.
func TestTake(t *testing.T) {
	for room := 1; room <= 64; room++ {
		l, p := filled(t, room, room)
		for i := range 2 * room {
			want, is := p.take()
			takes(t, l, want, is)
			agree(t, l, p)
			put(t, l, frame(room+i), p.put(frame(room+i)))
			put(t, l, frame(0), api.ErrFull)
			agree(t, l, p)
		}
		drained(t, l, p)
	}
}

// lanes calls f with lanes of all numbers of frames up to 9, and some greater ones, that are full, that have room for one more, and for many; f makes the same one as often as it wants.
func lanes(f func(room, n int)) {
	for _, n := range []int{0, 1, 2, 3, 4, 5, 6, 7, 8, 9, 31, 32, 33, 63, 64} {
		for _, room := range []int{n, n + 1, 64} {
			if room >= 1 && room <= 64 {
				f(room, n)
			}
		}
	}
}

// P11.2: Drop, Double and Front do what they say, with each frame of a lane, the room full or not; the other frames stay in their order, and the lane goes on as one that is like it.
func TestOne(t *testing.T) {
	does := []struct {
		name string
		lane func(l *lane.Lane, i int) api.Errno
		same func(p *plain, i int) api.Errno
	}{
		{"drop", (*lane.Lane).Drop, (*plain).drop},
		{"double", (*lane.Lane).Double, (*plain).double},
		{"front", (*lane.Lane).Front, (*plain).front},
	}
	lanes(func(room, n int) {
		for _, d := range does {
			for i := range n {
				l, p := filled(t, room, n)
				errs(t, d.lane(l, i), d.same(p, i))
				agree(t, l, p)
				put(t, l, frame(n), p.put(frame(n)))
				agree(t, l, p)
				drained(t, l, p)
				if t.Failed() {
					t.Fatalf("%s %d of %d, room %d", d.name, i, n, room)
				}
			}
		}
	})
}

// P11.2: where no frame is it is ErrRange, whether there is room or not, and nothing changes.
func TestOutside(t *testing.T) {
	lanes(func(room, n int) {
		l, p := filled(t, room, n)
		for _, i := range slices.Concat(below0, []int{n, n + 1, room, room + 1}, far) {
			if i >= 0 && i < n {
				continue
			}
			errs(t, l.Drop(i), api.ErrRange)
			errs(t, l.Double(i), api.ErrRange)
			errs(t, l.Front(i), api.ErrRange)
		}
		agree(t, l, p)
		drained(t, l, p)
		errs(t, l.Drop(0), api.ErrRange)
		errs(t, l.Double(0), api.ErrRange)
		errs(t, l.Front(0), api.ErrRange)
	})
}

// P11.2: a frame that is doubled in a full lane changes nothing, however often.
func TestDoubleFull(t *testing.T) {
	for _, room := range []int{1, 2, 3, 64} {
		l, p := filled(t, room, room)
		for i := range room {
			errs(t, l.Double(i), api.ErrFull)
			agree(t, l, p)
		}
		drained(t, l, p)
	}
}

// P11.2: of a frame that is there twice one goes, or is moved, the other stays.
func TestTwins(t *testing.T) {
	l := made(t, 4)
	put(t, l, frame(1), api.OK)
	put(t, l, frame(2), api.OK)
	errs(t, l.Double(0), api.OK)
	has(t, l, frame(1), frame(2), frame(1))
	errs(t, l.Front(2), api.OK)
	has(t, l, frame(1), frame(1), frame(2))
	errs(t, l.Drop(0), api.OK)
	has(t, l, frame(1), frame(2))
	errs(t, l.Double(1), api.OK)
	errs(t, l.Double(1), api.OK)
	has(t, l, frame(1), frame(2), frame(2), frame(2))
}

// P11.2: all go, and how many is told; the lane has its whole room again.
func TestClear(t *testing.T) {
	lanes(func(room, n int) {
		l, p := filled(t, room, n)
		for _, want := range []int{p.clear(), 0} {
			if got := l.Clear(); got != want {
				t.Errorf("cleared %d; asked for %d", got, want)
			}
			agree(t, l, p)
		}
		takes(t, l, nil, false)
		for i := range room + 1 {
			put(t, l, frame(i), p.put(frame(i)))
		}
		agree(t, l, p)
		drained(t, l, p)
	})
}

// P11.3: what is asked changes nothing: asked again it is answered the same.
func TestAskedAgain(t *testing.T) {
	lanes(func(room, n int) {
		l, p := filled(t, room, n)
		for range 3 {
			agree(t, l, p)
		}
		drained(t, l, p)
	})
}

// Of a lane that is none: ErrNil, ahead of what is wrong with an argument; 0, false, nothing.
func TestNone(t *testing.T) {
	var none *lane.Lane
	for _, l := range []*lane.Lane{none, {}} {
		for range 2 {
			for _, n := range []int{0, 1, 512, 513} {
				put(t, l, make([]byte, n), api.ErrNil)
			}
			put(t, l, nil, api.ErrNil)
			for _, i := range slices.Concat(below0, []int{0, 1, 63, 64}, far) {
				errs(t, l.Drop(i), api.ErrNil)
				errs(t, l.Double(i), api.ErrNil)
				errs(t, l.Front(i), api.ErrNil)
			}
			takes(t, l, nil, false)
			if n := l.Clear(); n != 0 {
				t.Errorf("cleared %d of none", n)
			}
			has(t, l)
		}
	}
}
