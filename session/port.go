package session

import (
	"catenary/api"
	"catenary/hail"
	"catenary/seg"
)

// Port is a switch's end.
type Port struct {
	body              // of its session, from the switch
	guest *hail.Guest // a port that NewPort did not make has none
}

// NewPort is that of a switch that has begun so often, without a session.
func NewPort(self, boot int) (*Port, api.Errno) {
	guest, e := hail.NewGuest(self, boot)
	if e != api.OK {
		return nil, e
	}
	return &Port{body: body{from: self}, guest: guest}, api.OK
}

// Send gives it an order.
func (p *Port) Send(o api.Order) api.Errno {
	switch {
	case p.isNone():
		return api.ErrNil
	case !p.hasSession():
		return api.ErrState
	}
	return p.put(o)
}

// Tick is what it says at a tick. It never fails: the controller finds out, and begins anew.
func (p *Port) Tick(now int) []api.Seg {
	if !p.hasSession() || !isTick(now) {
		return nil
	}
	return p.says(now)
}

// Take takes a segment: the orders that are in order now, what it answers at once, and whether a session begins by it.
func (p *Port) Take(s api.Seg, now int) (l []api.Order, answer []api.Seg, begins bool) {
	if p.isNone() || !isTick(now) {
		return nil, nil, false
	}
	said, is, begins := p.guest.Take(s)
	if is {
		return nil, []api.Seg{p.answers(said, begins)}, begins
	}
	var told orders
	if p.isOfSession(s) {
		p.hears(s, now, told.tell)
	}
	return told, nil, false
}

// Left is how many orders were not heard.
func (p *Port) Left() int {
	if p.isNone() {
		return 0
	}
	return p.left()
}

// Epoch is its session's; 0, if it has none.
func (p *Port) Epoch() int {
	if p.isNone() {
		return 0
	}
	return p.epoch
}

// isNone tells whether a port is none: nil, or a zero one.
func (p *Port) isNone() bool {
	return p == nil || p.guest == nil
}

// hasSession tells whether it is in a session.
func (p *Port) hasSession() bool {
	return p.Epoch() != 0
}

// isOfSession tells whether a segment is one of its session, to it.
func (p *Port) isOfSession(s api.Seg) bool {
	return p.hasSession() && seg.Check(s) == api.OK && s.To == p.from && s.Epoch == p.epoch
}

// answers is what its guest answers: an ack tells what was heard, which the guest does not know.
func (p *Port) answers(said api.Seg, begins bool) api.Seg {
	if begins {
		p.body = newBody(0, p.from, p.guest.Epoch())
	}
	if said.Kind == api.SegAck {
		said.Ack = p.inbox.Ack()
	}
	return said
}
