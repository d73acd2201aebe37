package lane

// send puts a frame last; false, if there is no room.
func (l *Lane) send(frame []byte) bool {
	select {
	case l.frames <- frame:
		return true
	default:
		return false
	}
}

// receive takes the first frame out; false, if there is none.
func (l *Lane) receive() ([]byte, bool) {
	select {
	case frame := <-l.frames:
		return frame, true
	default:
		return nil, false
	}
}

// turn puts the first n frames behind the others. One that was received has left room: it is always sent.
func (l *Lane) turn(n int) {
	for range n {
		frame, _ := l.receive()
		l.send(frame)
	}
}

// pull takes the frame i out. All others go round once, so that they stay in their order.
func (l *Lane) pull(i int) []byte {
	behind := l.Len() - 1 - i
	l.turn(i)
	frame, _ := l.receive()
	l.turn(behind)
	return frame
}

// look is the frame i, which stays where it is, as all go round once.
func (l *Lane) look(i int) []byte {
	behind := l.Len() - 1 - i
	l.turn(i)
	frame, _ := l.receive()
	l.send(frame)
	l.turn(behind)
	return frame
}
