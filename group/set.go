package group

// set is some of the ports 1 to 4, each a bit. Its methods are asked of such ports alone: a shift by less than 0 would panic.
type set uint8

// has tells whether a port is in the set.
func (s set) has(port int) bool {
	return s>>port&1 == 1
}

// with is the set, and the port.
func (s set) with(port int) set {
	return s | 1<<port
}

// without is the set, but for the port.
func (s set) without(port int) set {
	return s &^ (1 << port)
}
