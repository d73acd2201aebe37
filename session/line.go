package session

import (
	"catenary/api"
	"catenary/hail"
	"catenary/seg"
)

// Line is the controller's end of a switch.
type Line struct {
	body              // of its last epoch, to the switch; a line that NewLine did not make is to none
	call   *hail.Call // nil, if no epoch has begun
	soon   bool       // its call has gone on: what it says now does not wait for the beat
	failed bool
}

// NewLine is one to a switch, that has begun no epoch.
func NewLine(to int) (*Line, api.Errno) {
	if to < 1 || to > api.MaxSwitches {
		return nil, api.ErrArg
	}
	return &Line{body: body{to: to}}, api.OK
}

// Begin begins an epoch, which is above all that it has begun. What was not heard in the last one is gone.
func (l *Line) Begin(epoch, now int) api.Errno {
	switch {
	case l.isNone():
		return api.ErrNil
	case !isTick(now):
		return api.ErrArg
	case epoch <= l.epoch || epoch > api.MaxLong:
		return api.ErrEpoch
	}
	call, _ := hail.NewCall(l.to, epoch)
	*l = Line{body: newBody(l.to, 0, epoch), call: call}
	l.beat.Start(now)
	return api.OK
}

// Send gives it an order. It waits till the session is open.
func (l *Line) Send(o api.Order) api.Errno {
	switch {
	case l.isNone():
		return api.ErrNil
	case !l.goesOn():
		return api.ErrState
	}
	return l.put(o)
}

// Tick is what it says at a tick. It fails, if it says something in vain too often.
func (l *Line) Tick(now int) []api.Seg {
	if !l.goesOn() || !isTick(now) {
		return nil
	}
	said := l.speaks(now)
	l.failed = l.beat.Tries() >= api.MaxTries
	return said
}

// Take takes a segment, and tells the orders that are in order now.
func (l *Line) Take(s api.Seg, now int) []api.Order {
	if !l.goesOn() || !isTick(now) || seg.Check(s) != api.OK || s.From != l.to {
		return nil
	}
	var told orders
	switch {
	case !l.call.Open():
		l.callTakes(s, now)
	case s.Epoch == l.epoch:
		l.hears(s, now, told.tell)
	}
	return told
}

// Open tells whether its session is open.
func (l *Line) Open() bool {
	return l.goesOn() && l.call.Open()
}

// Failed tells whether it has failed in its epoch.
func (l *Line) Failed() bool {
	return l != nil && l.failed
}

// Left is how many orders were not heard.
func (l *Line) Left() int {
	if l.isNone() {
		return 0
	}
	return l.left()
}

// Epoch is the last one that has begun; 0, if none has.
func (l *Line) Epoch() int {
	if l.isNone() {
		return 0
	}
	return l.epoch
}

// Boot is how often the switch had begun when it answered the call; 0, if it has not.
func (l *Line) Boot() int {
	if l.isNone() {
		return 0
	}
	return l.call.Boot()
}

// isNone tells whether a line is none: nil, or a zero one.
func (l *Line) isNone() bool {
	return l == nil || l.to == 0
}

// goesOn tells whether it has a call, and has not failed.
func (l *Line) goesOn() bool {
	return l != nil && l.call != nil && !l.failed
}

// speaks is what it says at a tick: of its call, till that is open.
func (l *Line) speaks(now int) []api.Seg {
	if l.call.Open() {
		return l.says(now)
	}
	if !l.callIsDue(now) {
		return nil
	}
	s, _ := l.call.Says()
	return []api.Seg{s}
}

// callIsDue tells whether its call is to say something. What it says soon is no try of the beat, as it was never said.
func (l *Line) callIsDue(now int) bool {
	if l.soon {
		l.soon = false
		return true
	}
	return l.beat.Due(now)
}

// callTakes hands a segment to its call.
func (l *Line) callTakes(s api.Seg, now int) {
	on := l.call.Take(s)
	switch {
	case l.call.Open():
		l.beat.Stop()
	case on:
		l.beat.Start(now)
		l.soon = true
	}
}
