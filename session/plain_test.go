package session_test

import (
	"catenary/api"
	"catenary/order"
	"catenary/seg"
)

// plainBody is a body as the document says it, but for its messages: they are those of a list, of which so many were said, and heard.
type plainBody struct {
	epoch             int
	said, heard       int
	next              int       // the number of the message that the other end is to say next
	kept              [4]string // the messages that came so far ahead of it; "": none
	runs, owes        bool      // whether the beat runs, and whether an ack is owed
	due, waits, tries int       // of the beat
}

// plain is an end, a line or a port, as the document says it, but for its messages.
type plain struct {
	self                       int  // the switch
	isPort                     bool // else it is a line
	boot                       int  // of a port; of a line the one that it knows
	called, offers, open, soon bool
	failed                     bool
	body                       plainBody
}

// plainEnd is one with its messages: all that were handed in since its epoch began.
type plainEnd struct {
	plain
	messages []string
}

// start starts the beat.
func (b *plainBody) start(now int) {
	b.runs, b.due, b.waits, b.tries = true, now+4, 8, 0
}

// stop lets it stand.
func (b *plainBody) stop() {
	b.runs, b.due, b.waits, b.tries = false, 0, 0, 0
}

// isDue asks it.
func (b *plainBody) isDue(now int) bool {
	if !b.runs || now < b.due {
		return false
	}
	b.tries++
	b.due, b.waits = now+b.waits, min(2*b.waits, 32)
	return true
}

// mayTick tells whether now is a tick.
func mayTick(now int) bool {
	return 0 <= now && now <= 1<<53-1
}

// begin begins a line's epoch.
func (p *plainEnd) begin(epoch, now int) api.Errno {
	if !mayTick(now) {
		return api.ErrArg
	}
	if epoch <= p.body.epoch || epoch > lastLong {
		return api.ErrEpoch
	}
	*p = plainEnd{plain: plain{self: p.self, called: true, body: plainBody{epoch: epoch}}}
	p.body.start(now)
	return api.OK
}

// lives tells whether an end takes orders, ticks, and what is not about how its session begins.
func (p *plainEnd) lives() bool {
	if p.isPort {
		return p.body.epoch != 0
	}
	return p.called && !p.failed
}

// send hands it an order.
func (p *plainEnd) send(o api.Order) api.Errno {
	if !p.lives() {
		return api.ErrState
	}
	message, e := order.Bytes(o)
	switch {
	case e != api.OK:
		return e
	case len(p.messages) >= 20000:
		return api.ErrLimit
	case p.left() >= 512:
		return api.ErrFull
	}
	p.messages = append(p.messages, string(message))
	return api.OK
}

// left is how many messages were not heard.
func (p *plainEnd) left() int {
	return len(p.messages) - p.body.heard
}

// ofSession is a segment of its session.
func (p *plainEnd) ofSession(kind int) api.Seg {
	s := api.Seg{Kind: kind, Hops: 12, To: p.self, Epoch: p.body.epoch}
	if p.isPort {
		s.To, s.From = 0, p.self
	}
	return s
}

// tick is what it says at a tick.
func (p *plainEnd) tick(now int) (said []api.Seg) {
	switch {
	case !p.lives() || !mayTick(now):
		return nil
	case p.isPort:
		return p.says(now)
	case p.open:
		said = p.says(now)
	case p.soon || p.body.isDue(now):
		p.soon = false
		said = []api.Seg{hello(p.self)}
		if p.offers {
			said = []api.Seg{syn(p.self, p.body.epoch, p.boot)}
		}
	}
	p.failed = p.body.tries >= 8
	return said
}

// says is what it says at a tick of a session that goes on.
func (p *plainEnd) says(now int) (said []api.Seg) {
	b := &p.body
	if b.owes {
		s := p.ofSession(4)
		s.Ack = b.next
		said = append(said, s)
		b.owes = false
	}
	first := b.said
	b.said = min(len(p.messages), b.heard+4)
	said = p.saysAll(said, first)
	if first < b.said && !b.runs {
		b.start(now)
	} else if b.isDue(now) {
		said = p.saysAll(said, b.heard)
	}
	return said
}

// saysAll puts the messages from one on that were said behind what is said.
func (p *plainEnd) saysAll(said []api.Seg, first int) []api.Seg {
	for n := first; n < p.body.said; n++ {
		s := p.ofSession(5)
		s.Seq, s.B = n, []byte(p.messages[n])
		said = append(said, s)
	}
	return said
}

// take takes a segment.
func (p *plainEnd) take(s api.Seg, now int) (told []api.Order, answer []api.Seg, begins bool) {
	if !mayTick(now) || seg.Check(s) != api.OK || max(s.To, s.From) != p.self {
		return nil, nil, false
	}
	if p.isPort {
		return p.portTakes(s, now)
	}
	if s.From == 0 || !p.lives() {
		return nil, nil, false
	}
	switch {
	case p.open:
		told = p.hears(s, now)
	case !p.offers && s.Kind == 2:
		p.offers, p.boot, p.soon = true, s.Boot, true
		p.body.start(now)
	case p.offers && s.Kind == 4 && s.Epoch == p.body.epoch:
		p.open, p.soon = true, false
		p.body.stop()
	}
	return told, nil, false
}

// portTakes takes a segment that may be, from the switch or to it.
func (p *plainEnd) portTakes(s api.Seg, now int) (told []api.Order, answer []api.Seg, begins bool) {
	switch {
	case s.To == 0:
		return nil, nil, false
	case s.Kind == 1:
		return nil, []api.Seg{hi(p.self, p.boot)}, false
	case s.Kind == 3 && s.Boot == p.boot && s.Epoch >= p.body.epoch:
		if begins = s.Epoch > p.body.epoch; begins {
			p.body, p.messages = plainBody{epoch: s.Epoch}, nil
		}
		a := p.ofSession(4)
		a.Ack = p.body.next
		return nil, []api.Seg{a}, begins
	}
	return p.hears(s, now), nil, false
}

// hears hears a segment of the other end, if it is one of the session.
func (p *plainEnd) hears(s api.Seg, now int) []api.Order {
	if p.body.epoch == 0 || s.Epoch != p.body.epoch {
		return nil
	}
	b := &p.body
	switch {
	case s.Kind == 5:
		b.owes = true
		return b.comes(s.Seq, string(s.B))
	case s.Kind == 4 && b.heard < s.Ack && s.Ack <= b.said:
		b.heard = s.Ack
		b.stop()
		if b.heard < b.said {
			b.start(now)
		}
	}
	return nil
}

// comes takes a message in, and tells the orders that are in order.
func (b *plainBody) comes(seq int, message string) (told []api.Order) {
	ahead := (seq - b.next + 1<<16) % (1 << 16)
	if ahead >= 4 {
		return nil
	}
	if ahead == 0 || b.kept[ahead] == "" {
		b.kept[ahead] = message
	}
	for b.kept[0] != "" {
		if o, e := order.Parse([]byte(b.kept[0])); e == api.OK {
			told = append(told, o)
		}
		copy(b.kept[:], b.kept[1:])
		b.kept[3] = ""
		b.next = (b.next + 1) % (1 << 16)
	}
	return told
}
