package hail

import (
	"catenary/api"
)

// guestState is how far a guest has come.
type guestState int

const (
	noGuest     guestState = iota // it is none: nil, or a zero one
	free                          // it has no session
	bound                         // it is in a session
	guestStates                   // how many there are
)

// Guest is the switch's end.
type Guest struct {
	self, boot int // a guest that NewGuest did not make is no switch's
	epoch      int // of its session; 0, if it has none
}

// NewGuest is that of a switch which has begun so often, without a session.
func NewGuest(self, boot int) (*Guest, api.Errno) {
	if !isSwitch(self) || !isLong(boot, 0) {
		return nil, api.ErrArg
	}
	return &Guest{self: self, boot: boot}, api.OK
}

// Take takes a segment: what it answers, if that is something, and whether a session begins by it.
func (g *Guest) Take(s api.Seg) (answer api.Seg, is, begins bool) {
	takes := [guestStates]func(*Guest, api.Seg) (api.Seg, bool, bool){
		noGuest: (*Guest).takesNothing,
		free:    (*Guest).takesAll,
		bound:   (*Guest).takesNoOlder,
	}
	return takes[g.state()](g, s)
}

// Epoch is its session's; 0, if it has none.
func (g *Guest) Epoch() int {
	if g == nil {
		return 0
	}
	return g.epoch
}

// Boot is how often the switch has begun.
func (g *Guest) Boot() int {
	if g == nil {
		return 0
	}
	return g.boot
}

// state is how far a guest has come, one that is nil, too.
func (g *Guest) state() guestState {
	switch {
	case g == nil || g.self == 0:
		return noGuest
	case g.epoch == 0:
		return free
	}
	return bound
}

// takesNothing is what a guest does that is none.
func (g *Guest) takesNothing(api.Seg) (answer api.Seg, is, begins bool) {
	return api.Seg{}, false, false
}

// takesAll begins whatever epoch it is offered.
func (g *Guest) takesAll(s api.Seg) (answer api.Seg, is, begins bool) {
	switch {
	case isOne(s, api.SegHello) && s.To == g.self:
		return g.hi(), true, false
	case g.isOffered(s):
		g.epoch = s.Epoch
		return g.ack(), true, true
	}
	return api.Seg{}, false, false
}

// takesNoOlder begins no epoch that it is offered late: of its own one the answer may have been lost, one below is over.
func (g *Guest) takesNoOlder(s api.Seg) (answer api.Seg, is, begins bool) {
	switch {
	case g.isOffered(s) && s.Epoch == g.epoch:
		return g.ack(), true, false
	case g.isOffered(s) && s.Epoch < g.epoch:
		return api.Seg{}, false, false
	}
	return g.takesAll(s)
}

// isOffered tells whether a segment offers the guest an epoch: one that offers it to another boot is of another life of the switch.
func (g *Guest) isOffered(s api.Seg) bool {
	return isOne(s, api.SegSyn) && s.To == g.self && s.Boot == g.boot
}

// hi tells the boot.
func (g *Guest) hi() api.Seg {
	return api.Seg{Kind: api.SegHi, From: g.self, Hops: api.MaxHops, Boot: g.boot}
}

// ack tells that the guest's epoch has begun, of which nothing was heard yet.
func (g *Guest) ack() api.Seg {
	return api.Seg{Kind: api.SegAck, From: g.self, Hops: api.MaxHops, Epoch: g.epoch}
}
