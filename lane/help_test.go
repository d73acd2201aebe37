package lane_test

import (
	"bytes"
	"math"
	"slices"
	"testing"

	"catenary/api"
	"catenary/lane"
)

// below0 and far are numbers at which no lane has a frame, and that are no room: just below 0, far away, and such as are one but for a multiple of 2^8 or 2^32.
var (
	below0 = []int{math.MinInt, math.MinInt + 1, -1 << 32, -256, -255, -64, -2, -1}
	far    = []int{65, 66, 127, 128, 255, 256, 257, 512, 1 << 32, 1<<32 + 1, 1<<32 + 64, math.MaxInt - 1, math.MaxInt}
)

// plain is a lane as the document says it: a room, and frames one behind the other.
type plain struct {
	room   int
	frames [][]byte
}

func (p *plain) put(frame []byte) api.Errno {
	if len(frame) > 512 {
		return api.ErrLimit
	}
	if len(p.frames) >= p.room {
		return api.ErrFull
	}
	p.frames = append(p.frames, bytes.Clone(frame))
	return api.OK
}

func (p *plain) take() ([]byte, bool) {
	if len(p.frames) == 0 {
		return nil, false
	}
	frame := p.frames[0]
	p.frames = p.frames[1:]
	return frame, true
}

func (p *plain) has(i int) bool {
	return i >= 0 && i < len(p.frames)
}

func (p *plain) drop(i int) api.Errno {
	if !p.has(i) {
		return api.ErrRange
	}
	p.frames = slices.Concat(p.frames[:i], p.frames[i+1:])
	return api.OK
}

func (p *plain) double(i int) api.Errno {
	if !p.has(i) {
		return api.ErrRange
	}
	return p.put(p.frames[i])
}

func (p *plain) front(i int) api.Errno {
	if !p.has(i) {
		return api.ErrRange
	}
	p.frames = slices.Concat(p.frames[i:i+1], p.frames[:i], p.frames[i+1:])
	return api.OK
}

func (p *plain) clear() int {
	n := len(p.frames)
	p.frames = nil
	return n
}

// made is a lane of a room, without frames.
func made(t *testing.T, room int) *lane.Lane {
	t.Helper()
	l, e := lane.New(room)
	if e != api.OK || l == nil {
		t.Fatalf("room %d: a lane %t, error %d", room, l != nil, e)
	}
	return l
}

// refused fails unless there is no lane of a room, by ErrArg.
func refused(t *testing.T, room int) {
	t.Helper()
	if l, e := lane.New(room); l != nil || e != api.ErrArg {
		t.Errorf("room %d: a lane %t, error %d; asked for error %d", room, l != nil, e, api.ErrArg)
	}
}

// filled is a lane of a room with n frames, no two of them the same, and a plain one that is the same.
func filled(t *testing.T, room, n int) (*lane.Lane, *plain) {
	t.Helper()
	l, p := made(t, room), &plain{room: room}
	for i := range n {
		put(t, l, frame(i), p.put(frame(i)))
	}
	return l, p
}

// frame is the frame of a number, unlike that of every other number.
func frame(n int) []byte {
	return bytes.Repeat([]byte{byte(n), byte(n >> 8), byte(n >> 16)}, 1+n%7)
}

// errs fails unless an error is that one.
func errs(t *testing.T, got, want api.Errno) {
	t.Helper()
	if got != want {
		t.Errorf("error %d; asked for %d", got, want)
	}
}

// put fails unless a frame is put with that error.
func put(t *testing.T, l *lane.Lane, frame []byte, want api.Errno) {
	t.Helper()
	if got := l.Put(frame); got != want {
		t.Errorf("a frame of %d bytes: error %d; asked for %d", len(frame), got, want)
	}
}

// takes fails unless that frame is taken; none, if is is false.
func takes(t *testing.T, l *lane.Lane, want []byte, is bool) {
	t.Helper()
	got, ok := l.Take()
	if !bytes.Equal(got, want) || ok != is {
		t.Errorf("took %x, %t; asked for %x, %t", got, ok, want, is)
	}
	if !ok && got != nil {
		t.Errorf("took none, and %x", got)
	}
}

// has fails unless a lane tells just those frames, in that order.
func has(t *testing.T, l *lane.Lane, want ...[]byte) {
	t.Helper()
	if got := l.All(); !slices.EqualFunc(got, want, bytes.Equal) {
		t.Errorf("frames %x; asked for %x", got, want)
	}
	if got := l.Len(); got != len(want) {
		t.Errorf("%d frames; asked for %d", got, len(want))
	}
}

// agree fails unless a lane tells all that the plain one tells.
func agree(t *testing.T, l *lane.Lane, p *plain) {
	t.Helper()
	has(t, l, p.frames...)
}

// drained fails unless a lane gives out what the plain one gives, to the last frame.
func drained(t *testing.T, l *lane.Lane, p *plain) {
	t.Helper()
	for range len(p.frames) + 1 {
		want, is := p.take()
		takes(t, l, want, is)
	}
	agree(t, l, p)
}

// chance is a row of numbers that looks like chance.
type chance uint32

// below is the next number of the row, from 0 to n - 1.
func (c *chance) below(n int) int {
	*c = *c*1664525 + 1013904223
	return int(*c>>8) % n
}
