package lane_test

import (
	"bytes"
	"testing"

	"catenary/api"
)

// spoil writes over a frame and all of its spare room.
func spoil(frame []byte) {
	for i := range frame[:cap(frame)] {
		frame[:cap(frame)][i] = 0xee
	}
}

// P11.4: a frame that is handed in is only read, its spare room neither written, whatever becomes of it in the lane, and whether it is put or not.
func TestHandedInIsOnlyRead(t *testing.T) {
	for _, n := range []int{0, 1, 4, 512, 513} {
		l := made(t, 3)
		memory := bytes.Repeat([]byte{5}, n+8)
		for range 3 {
			l.Put(memory[:n])
		}
		l.Double(0)
		l.Front(1)
		l.Drop(2)
		for _, frame := range l.All() {
			spoil(frame)
		}
		for range 3 {
			frame, _ := l.Take()
			spoil(frame)
		}
		if !bytes.Equal(memory, bytes.Repeat([]byte{5}, n+8)) {
			t.Errorf("%d bytes: they became %x", n, memory)
		}
	}
}

// P11.4: a frame that is handed in is not kept: what becomes of it counts for nothing.
func TestHandedInIsNotKept(t *testing.T) {
	l, p := made(t, 4), &plain{room: 4}
	memory := make([]byte, 0, 16)
	for i := range 3 {
		memory = append(memory[:0], frame(i)[:3]...)
		put(t, l, memory, p.put(memory))
		spoil(memory)
		agree(t, l, p)
	}
	drained(t, l, p)
}

// P11.4: what All answers is new memory: whatever becomes of it, and of its spare room, the lane has the same still, and so do other answers.
func TestAllIsNew(t *testing.T) {
	l, p := filled(t, 4, 3)
	errs(t, l.Double(0), p.double(0))
	for at := range 4 {
		one, other := l.All(), l.All()
		spoil(one[at])
		for i := range one {
			if i != at && !bytes.Equal(one[i], p.frames[i]) {
				t.Errorf("frame %d became %x, as frame %d changed", i, one[i], at)
			}
			if !bytes.Equal(other[i], p.frames[i]) {
				t.Errorf("frame %d of the other answer became %x", i, other[i])
			}
		}
		for i := range one[:cap(one)] {
			one[:cap(one)][i] = nil
		}
		agree(t, l, p)
	}
	drained(t, l, p)
}

// P11.4: a frame that is taken is new memory: whatever becomes of it, a double that is in the lane still stays as it was, and so does what was answered ahead.
func TestTakenIsNew(t *testing.T) {
	l, p := filled(t, 4, 2)
	for range 2 {
		errs(t, l.Double(0), p.double(0))
	}
	all, want := l.All(), p.frames
	for range 4 {
		frame, is := l.Take()
		p.take()
		if !is {
			t.Fatal("none was taken")
		}
		spoil(frame)
		agree(t, l, p)
	}
	for i := range want {
		if !bytes.Equal(all[i], want[i]) {
			t.Errorf("frame %d became %x", i, all[i])
		}
	}
}

// P11.4: frames that were taken share nothing: one stays as it is, whatever becomes of its double, and of what is put thereafter.
func TestTakenStays(t *testing.T) {
	l := made(t, 3)
	put(t, l, frame(4), api.OK)
	errs(t, l.Double(0), api.OK)
	errs(t, l.Double(1), api.OK)
	one, _ := l.Take()
	other, _ := l.Take()
	spoil(one)
	for i := range 3 {
		l.Put(frame(5 + i))
	}
	if !bytes.Equal(other, frame(4)) {
		t.Errorf("it became %x", other)
	}
	has(t, l, frame(4), frame(5), frame(6))
}

// Two lanes share nothing, though the same frame is put into both.
func TestLanesAreTheirOwn(t *testing.T) {
	one, other := made(t, 2), made(t, 2)
	same := frame(3)
	put(t, one, same, api.OK)
	put(t, other, same, api.OK)
	put(t, one, frame(4), api.OK)
	taken, _ := one.Take()
	spoil(taken)
	has(t, one, frame(4))
	has(t, other, frame(3))
	one.Clear()
	has(t, other, frame(3))
}
