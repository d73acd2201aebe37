package session

import (
	"catenary/api"
	"catenary/beat"
	"catenary/inbox"
	"catenary/order"
	"catenary/sender"
)

// How long it takes, in ticks, till what was said is said again: the first time, and at most.
const (
	firstWait   = 4
	longestWait = 32
)

// body is what an end has while a session goes on; of an end that has none it says no more than which switch it is of.
type body struct {
	to, from int // of what it says: one of them is the switch, the other one is 0, the controller
	epoch    int // 0, if no session goes on
	sender   *sender.Sender
	inbox    *inbox.Inbox[api.Order]
	beat     *beat.Beat
	owes     bool // an ack
}

// newBody is one whose session begins: nothing was sent, nothing was heard. None of its numbers can be refused.
func newBody(to, from, epoch int) body {
	messages, _ := sender.New(api.MaxWindow, 0)
	heard, _ := inbox.New[api.Order](0)
	again, _ := beat.New(firstWait, longestWait)
	return body{to: to, from: from, epoch: epoch, sender: messages, inbox: heard, beat: again}
}

// put puts an order behind all that is to be said.
func (b *body) put(o api.Order) api.Errno {
	message, e := order.Bytes(o)
	if e != api.OK {
		return e
	}
	return b.sender.Put(message)
}

// left is how many orders were not heard.
func (b *body) left() int {
	return b.sender.Left()
}

// says is what an end says at a tick.
func (b *body) says(now int) []api.Seg {
	var said []api.Seg
	if b.owes {
		b.owes = false
		said = append(said, b.ack())
	}
	fresh := b.sender.Fresh()
	said = append(said, b.data(fresh)...)
	switch {
	case len(fresh) > 0 && !b.beat.Runs():
		b.beat.Start(now)
	case b.beat.Due(now):
		said = append(said, b.data(b.sender.Again())...)
	}
	return said
}

// hears takes a segment of the session, and hands on what it tells.
func (b *body) hears(s api.Seg, now int, tell func(api.Order)) {
	switch s.Kind {
	case api.SegAck:
		b.hearsAck(s.Ack, now)
	case api.SegData:
		b.hearsData(s, tell)
	}
}

// hearsAck starts the beat anew for what is left: the other end is there, so it is not tried in vain.
func (b *body) hearsAck(ack, now int) {
	if n, _ := b.sender.Heard(ack); n == 0 {
		return
	}
	b.beat.Stop()
	if b.sender.Said() > 0 {
		b.beat.Start(now)
	}
}

// hearsData owes an ack for each message, also for one that was heard already: the ack of it may have been lost.
func (b *body) hearsData(s api.Seg, tell func(api.Order)) {
	b.owes = true
	o, _ := order.Parse(s.B)
	told, _ := b.inbox.Take(s.Seq, o)
	for _, o := range told {
		tell(o)
	}
}

// ack tells how much was heard.
func (b *body) ack() api.Seg {
	s := b.segment(api.SegAck)
	s.Ack = b.inbox.Ack()
	return s
}

// data are messages as segments.
func (b *body) data(messages []api.Item) []api.Seg {
	var said []api.Seg
	for _, m := range messages {
		s := b.segment(api.SegData)
		s.Seq, s.B = m.Seq, m.B
		said = append(said, s)
	}
	return said
}

// segment is one of the session, with nothing but what all of them have.
func (b *body) segment(kind int) api.Seg {
	return api.Seg{Kind: kind, To: b.to, From: b.from, Hops: api.MaxHops, Epoch: b.epoch}
}

// orders are those that are told.
type orders []api.Order

// tell puts an order behind them. One of no kind stands for a message that was no order: it has its place in the row, but tells nothing.
func (l *orders) tell(o api.Order) {
	if o.Kind != 0 {
		*l = append(*l, o)
	}
}
