package hail_test

import (
	"bytes"
	"testing"

	"catenary/api"
)

// messages calls f with segments that have a message, or an empty one, with spare room behind it; those that ends go on by have none.
func messages(t *testing.T, f func(s api.Seg)) {
	t.Helper()
	for _, n := range []int{0, 1, 256, 257} {
		for _, s := range []api.Seg{
			hello(2), syn(2, 5, 3), hi(2, 3), ack(2, 5), {Kind: 5, To: 2, Epoch: 5}, {Kind: 5, From: 2, Epoch: 5},
		} {
			room := bytes.Repeat([]byte{0xEE}, n+40)
			s.B = room[:n]
			f(s)
			if !bytes.Equal(room, bytes.Repeat([]byte{0xEE}, n+40)) {
				t.Errorf("%+v: its message, or the room behind it, was written", s)
			}
		}
	}
}

// P16.4: what either end is handed is only read, whether it goes on by it or not, and shares nothing with what is said and answered.
func TestHandedInIsOnlyRead(t *testing.T) {
	for steps := range 3 {
		messages(t, func(s api.Seg) {
			c, p := newCall(t, 2, 5)
			for _, ahead := range []api.Seg{hi(2, 3), ack(2, 5)}[:steps] {
				callTakes(t, c, p, ahead)
			}
			callTakes(t, c, p, s)
			said, _ := c.Says()
			spoil(said.B)
			likeCall(t, c, p)
		})
		messages(t, func(s api.Seg) {
			g, p := newGuest(t, 2, 3)
			for _, ahead := range []api.Seg{syn(2, 4, 3), syn(2, 5, 3)}[:steps] {
				guestTakes(t, g, p, ahead)
			}
			plain := *p
			answer, _, _ := g.Take(s)
			spoil(answer.B)
			plain.takes(s)
			likeGuest(t, g, &plain)
			guestTakes(t, g, &plain, s)
		})
	}
}

// spoil writes over bytes and all of their spare room.
func spoil(b []byte) {
	for i := range b[:cap(b)] {
		b[:cap(b)][i] = 0xAA
	}
}
