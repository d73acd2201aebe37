package hail

import (
	"catenary/api"
)

// callState is how far a call has come.
type callState int

const (
	noCall     callState = iota // it is none: nil, or a zero one
	asks                        // nothing was heard yet
	offers                      // it knows the switch's boot
	open                        // it knows that the switch has begun its epoch
	callStates                  // how many there are
)

// Call is the controller's end.
type Call struct {
	to, epoch int
	boot      int       // the switch's; 0, while it asks
	at        callState // a call that NewCall did not make is noCall
}

// NewCall is one to a switch, with an epoch, that asks.
func NewCall(to, epoch int) (*Call, api.Errno) {
	if !isSwitch(to) || !isLong(epoch, 1) {
		return nil, api.ErrArg
	}
	return &Call{to: to, epoch: epoch, at: asks}, api.OK
}

// Says is what it has to say; false, if that is nothing.
func (c *Call) Says() (s api.Seg, is bool) {
	says := [callStates]func(*Call) (api.Seg, bool){
		noCall: (*Call).saysNothing,
		asks:   (*Call).saysHello,
		offers: (*Call).saysSyn,
		open:   (*Call).saysNothing,
	}
	return says[c.state()](c)
}

// Take takes a segment, and tells whether the call goes on by it.
func (c *Call) Take(s api.Seg) bool {
	takes := [callStates]func(*Call, api.Seg) bool{
		noCall: (*Call).takesNothing,
		asks:   (*Call).takesHi,
		offers: (*Call).takesAck,
		open:   (*Call).takesNothing,
	}
	return takes[c.state()](c, s)
}

// Open tells whether it is open.
func (c *Call) Open() bool {
	return c.state() == open
}

// Boot is the switch's; 0, while the call asks.
func (c *Call) Boot() int {
	if c == nil {
		return 0
	}
	return c.boot
}

// state is how far a call has come, one that is nil, too.
func (c *Call) state() callState {
	if c == nil {
		return noCall
	}
	return c.at
}

// saysNothing: a call that is open needs no more.
func (c *Call) saysNothing() (api.Seg, bool) {
	return api.Seg{}, false
}

// saysHello asks the switch for its boot.
func (c *Call) saysHello() (api.Seg, bool) {
	return api.Seg{Kind: api.SegHello, To: c.to, Hops: api.MaxHops}, true
}

// saysSyn offers the epoch to that boot alone.
func (c *Call) saysSyn() (api.Seg, bool) {
	return api.Seg{Kind: api.SegSyn, To: c.to, Hops: api.MaxHops, Epoch: c.epoch, Boot: c.boot}, true
}

// takesNothing: whatever comes to a call that is open is late, or doubled.
func (c *Call) takesNothing(api.Seg) bool {
	return false
}

// takesHi keeps the boot that is heard first: one that is heard behind it may be of an earlier life of the switch, and late.
func (c *Call) takesHi(s api.Seg) bool {
	if !isOne(s, api.SegHi) || s.From != c.to {
		return false
	}
	c.boot, c.at = s.Boot, offers
	return true
}

// takesAck opens the call: who says its epoch has begun it.
func (c *Call) takesAck(s api.Seg) bool {
	if !isOne(s, api.SegAck) || s.From != c.to || s.Epoch != c.epoch {
		return false
	}
	c.at = open
	return true
}
