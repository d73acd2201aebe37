package session_test

import (
	"bytes"
	"testing"

	"catenary/api"
)

// spoil writes over bytes and all of their spare room.
func spoil(b []byte) {
	for i := range b[:cap(b)] {
		b[:cap(b)][i] = 0xAA
	}
}

// spoilOuts writes over a rule's outputs and all of their spare room.
func spoilOuts(l []api.Out) {
	for i := range l[:cap(l)] {
		l[:cap(l)][i] = api.Out{Port: 99}
	}
}

// spoilSegs writes over the messages of all segments, and over the segments.
func spoilSegs(l []api.Seg) {
	for i := range l[:cap(l)] {
		spoil(l[:cap(l)][i].B)
		l[:cap(l)][i] = api.Seg{Kind: 99}
	}
}

// spoilOrders writes over the outputs of all orders, and over the orders.
func spoilOrders(l []api.Order) {
	for i := range l[:cap(l)] {
		spoilOuts(l[:cap(l)][i].Rule.Outs)
		l[:cap(l)][i] = api.Order{Kind: 99}
	}
}

// roomy is a segment whose message has spare room behind it, and all of that.
func roomy(s api.Seg) (api.Seg, []byte) {
	room := append(bytes.Clone(s.B), bytes.Repeat([]byte{0xEE}, 50)...)
	s.B = room[:len(s.B)]
	return s, room
}

// handed hands in a segment with spare room, fails unless that, and the message, is as it was, and spoils it then.
func handed(t *testing.T, s api.Seg, take func(s api.Seg)) {
	t.Helper()
	s, room := roomy(s)
	was := bytes.Clone(room)
	take(s)
	if !bytes.Equal(room, was) {
		t.Errorf("%+v was written", s)
	}
	spoil(room)
}

// sentOrder is an order whose list has spare room, which is spoiled behind its being sent.
func sentOrder(t *testing.T, prio int, send func(o api.Order) api.Errno) {
	t.Helper()
	o := add(prio)
	room := append(o.Rule.Outs, api.Out{Port: 77}, api.Out{Port: 78})
	o.Rule.Outs = room[:2]
	send(o)
	if !sameOrders([]api.Order{o}, []api.Order{add(prio)}) || room[2].Port != 77 || room[3].Port != 78 {
		t.Error("an order that is sent was written")
	}
	spoilOuts(room)
}

// P17.7: what a line is handed is only read, and not kept, and what it answers is new memory.
func TestLineMemory(t *testing.T) {
	x := opened(t)
	for n := range 4 {
		sentOrder(t, n, x.send)
	}
	var want []api.Seg
	for n := range 4 {
		want = append(want, dataTo(2, 7, n, add(n)))
	}
	first, again := x.tick(0), x.tick(4)
	spoilSegs(first)
	if !sameSegs(again, want) {
		t.Errorf("%+v; asked for %+v", again, want)
	}
	spoilSegs(again)
	spoilSegs(x.tick(12))
	x.says(28, want...)
	var told []api.Order
	for _, seq := range []int{2, 1, 3, 0} {
		handed(t, dataFrom(2, 7, seq, add(seq)), func(s api.Seg) { told = x.take(s, 29) })
	}
	if !sameOrders(told, []api.Order{add(0), add(1), add(2), add(3)}) {
		t.Fatalf("tells %+v", told)
	}
	spoilOuts(told[0].Rule.Outs)
	if !sameOrders(told[1:], []api.Order{add(1), add(2), add(3)}) {
		t.Errorf("%+v: two orders that are told have something in common", told[1:])
	}
	spoilOrders(told)
	for _, seq := range []int{5, 6} {
		handed(t, dataFrom(2, 7, seq, add(seq)), func(s api.Seg) { x.tells(s, 30) })
	}
	handed(t, dataFrom(2, 7, 4, add(4)), func(s api.Seg) { x.tells(s, 30, add(4), add(5), add(6)) })
	handed(t, api.Seg{Kind: 2, From: 2}, func(s api.Seg) { x.tells(s, 30) })
	handed(t, ackFrom(2, 7, 2), func(s api.Seg) { x.tells(s, 30) })
	x.says(34, append([]api.Seg{ackTo(2, 7, 7)}, want[2:]...)...)
}

// P17.7: the same of a port.
func TestPortMemory(t *testing.T) {
	x := bound(t)
	for n := range 4 {
		sentOrder(t, n, x.send)
	}
	var want []api.Seg
	for n := range 4 {
		want = append(want, dataFrom(2, 7, n, add(n)))
	}
	first, again := x.tick(0), x.tick(4)
	spoilSegs(first)
	if !sameSegs(again, want) {
		t.Errorf("%+v; asked for %+v", again, want)
	}
	spoilSegs(again)
	spoilSegs(x.tick(12))
	x.says(28, want...)
	var told []api.Order
	for _, seq := range []int{2, 1, 3, 0} {
		handed(t, dataTo(2, 7, seq, add(seq)), func(s api.Seg) { told, _, _ = x.take(s, 29) })
	}
	if !sameOrders(told, []api.Order{add(0), add(1), add(2), add(3)}) {
		t.Fatalf("tells %+v", told)
	}
	spoilOuts(told[0].Rule.Outs)
	if !sameOrders(told[1:], []api.Order{add(1), add(2), add(3)}) {
		t.Errorf("%+v: two orders that are told have something in common", told[1:])
	}
	spoilOrders(told)
	for _, s := range []api.Seg{hello(2), syn(2, 7, 1)} {
		handed(t, s, func(s api.Seg) {
			_, answer, _ := x.take(s, 30)
			spoilSegs(answer)
		})
	}
	for _, seq := range []int{5, 6} {
		handed(t, dataTo(2, 7, seq, add(seq)), func(s api.Seg) { x.tells(s, 30) })
	}
	handed(t, dataTo(2, 7, 4, add(4)), func(s api.Seg) { x.tells(s, 30, add(4), add(5), add(6)) })
	handed(t, ackTo(2, 7, 2), func(s api.Seg) { x.tells(s, 30) })
	x.answers(syn(2, 7, 1), 31, false, ackFrom(2, 7, 7))
	x.says(34, append([]api.Seg{ackFrom(2, 7, 7)}, want[2:]...)...)
}

// P17.7: what is said at once, fresh and again, has nothing in common.
func TestSaidTwiceAtOnce(t *testing.T) {
	x := opened(t)
	x.send(add(0))
	x.tick(0)
	x.send(add(1))
	said := x.tick(4)
	if len(said) != 3 {
		t.Fatalf("says %+v", said)
	}
	spoil(said[0].B)
	spoil(said[1].B)
	if !sameSegs(said[2:], []api.Seg{dataTo(2, 7, 1, add(1))}) {
		t.Errorf("%+v", said[2])
	}
}
