package lane_test

import (
	"bytes"
	"slices"
	"testing"

	"catenary/api"
	"catenary/lane"
)

// rooms are rooms of all sizes.
func rooms() []int {
	return []int{1, 2, 3, 4, 5, 8, 13, 32, 63, 64}
}

// P11.1 to P11.6: a long row of calls answers what a plain lane answers; there are never more frames than the room.
func TestLongRows(t *testing.T) {
	c := chance(11)
	for _, room := range rooms() {
		l, p := filled(t, room, 0)
		for step := range 3000 {
			at := c.below(room+2) - 1
			switch c.below(12) {
			case 0, 1, 2, 3:
				put(t, l, frame(step), p.put(frame(step)))
			case 4, 5:
				want, is := p.take()
				takes(t, l, want, is)
			case 6:
				errs(t, l.Drop(at), p.drop(at))
			case 7, 8:
				errs(t, l.Double(at), p.double(at))
			case 9, 10:
				errs(t, l.Front(at), p.front(at))
			case 11:
				rare(t, &c, l, p)
			}
			agree(t, l, p)
			if l.Len() > room {
				t.Fatalf("%d frames, room %d", l.Len(), room)
			}
			if t.Failed() {
				t.Fatalf("room %d, step %d", room, step)
			}
		}
		drained(t, l, p)
	}
}

// rare does what is done now and then: a frame that is too long is put, or the lane is cleared.
func rare(t *testing.T, c *chance, l *lane.Lane, p *plain) {
	t.Helper()
	switch c.below(8) {
	case 0:
		if got, want := l.Clear(), p.clear(); got != want {
			t.Errorf("cleared %d; asked for %d", got, want)
		}
	default:
		long := make([]byte, 513)
		put(t, l, long, p.put(long))
	}
}

// P11.5: nothing dropped, doubled, or moved to the front: what was put is taken, all of it, in that order.
func TestInOrder(t *testing.T) {
	c := chance(5)
	for _, room := range rooms() {
		l := made(t, room)
		var in, out [][]byte
		for step := range 3000 {
			if c.below(2) == 0 {
				if l.Put(frame(step)) == api.OK {
					in = append(in, frame(step))
				}
			} else if frame, is := l.Take(); is {
				out = append(out, frame)
			}
		}
		for frame, is := l.Take(); is; frame, is = l.Take() {
			out = append(out, frame)
		}
		if len(in) < 500 || !slices.EqualFunc(in, out, bytes.Equal) {
			t.Errorf("room %d: %d frames were put, %d taken, or in another order", room, len(in), len(out))
		}
	}
}

// P11.5: what is taken was put; nothing doubled: no more often than it was put.
func TestTakenWasPut(t *testing.T) {
	c := chance(17)
	for _, room := range rooms() {
		for _, doubles := range []bool{false, true} {
			l := made(t, room)
			wasPut := map[string]int{}
			taken := 0
			for step := range 3000 {
				switch at := c.below(room); c.below(8) {
				case 0, 1, 2:
					if b := frame(step % 50); l.Put(b) == api.OK {
						wasPut[string(b)]++
					}
				case 3, 4:
					b, is := l.Take()
					if !is {
						continue
					}
					taken++
					if n, ok := wasPut[string(b)]; !ok || !doubles && n == 0 {
						t.Fatalf("room %d: %x was taken, and not put so often", room, b)
					}
					wasPut[string(b)]--
				case 5:
					l.Drop(at)
				case 6:
					l.Front(at)
				case 7:
					if doubles {
						l.Double(at)
					}
				}
			}
			if taken < 200 {
				t.Errorf("room %d: only %d were taken", room, taken)
			}
		}
	}
}

// P11.6: whatever is put and doubled, a lane stays within its room, and is full at it.
func TestNeverMoreThanTheRoom(t *testing.T) {
	for room := 1; room <= 64; room++ {
		l := made(t, room)
		put(t, l, frame(0), api.OK)
		for i := range 2 * room {
			l.Double(i % room)
			l.Put(frame(i))
			l.Front(room - 1)
			if l.Len() > room || len(l.All()) != l.Len() {
				t.Fatalf("%d frames, room %d", l.Len(), room)
			}
		}
		if l.Len() != room {
			t.Errorf("%d frames at the end, room %d", l.Len(), room)
		}
		if n := l.Clear(); n != room {
			t.Errorf("cleared %d, room %d", n, room)
		}
	}
}
