package group_test

import (
	"testing"

	"catenary/api"
	"catenary/group"
)

// P10.1, P10.2: the document's own examples.
func TestExamples(t *testing.T) {
	g := made(t, 3, 1)
	first(t, g, 3, true)
	errs(t, g.Live(3, false), api.OK)
	first(t, g, 1, true)
	errs(t, g.Live(1, false), api.OK)
	first(t, g, 0, false)

	g = made(t, 3, 1)
	errs(t, g.Live(3, false), api.OK)
	errs(t, g.Live(1, false), api.OK)
	errs(t, g.Live(2, true), api.ErrRange)
	errs(t, g.Live(3, true), api.OK)
	first(t, g, 3, true)
	up(t, g, 1, false)

	refused(t, 1, 1)
	refused(t, 5)
	has(t, made(t))
}

// P10.1: of all rows of numbers near the ends just those are a group's of which all may be ports, and none stands twice; all of them live.
func TestNew(t *testing.T) {
	rows([]int{-1, 0, 1, 2, 3, 4, 5}, 5, func(row []int) {
		if mayBe(row) {
			agree(t, made(t, row...), plainOf(row))
		} else {
			refused(t, row...)
		}
	})
}

// P10.1: a number that is no port is refused wherever it stands, and however far it is.
func TestNewOutside(t *testing.T) {
	for _, n := range outside {
		refused(t, n)
		refused(t, n, n)
		for _, l := range lists() {
			for at := range len(l) + 1 {
				row := append(append(append([]int{}, l[:at]...), n), l[at:]...)
				refused(t, row...)
			}
		}
	}
}

// P10.1: long lists are refused: some port stands twice.
func TestNewLong(t *testing.T) {
	long := []int{4, 3, 2, 1}
	for len(long) < 100000 {
		long = append(long, long...)
	}
	refused(t, long...)
	refused(t, long[:5]...)
	refused(t, make([]int, 100000)...)
}

// P10.1: a group without ports is one: it tells nothing, and knows no port.
func TestWithoutPorts(t *testing.T) {
	for _, ports := range [][]int{nil, {}, make([]int, 0, 4)} {
		g := made(t, ports...)
		for range 2 {
			agree(t, g, plainOf(nil))
			for _, port := range append([]int{1, 2, 3, 4}, outside...) {
				errs(t, g.Live(port, true), api.ErrRange)
				errs(t, g.Live(port, false), api.ErrRange)
			}
		}
	}
}

// Of a group that is none: ErrNil, ahead of what is wrong with a port; 0, false, nothing.
func TestNone(t *testing.T) {
	var none *group.Group
	for _, g := range []*group.Group{none, {}} {
		for range 2 {
			for _, port := range append([]int{1, 2, 3, 4}, outside...) {
				errs(t, g.Live(port, true), api.ErrNil)
				errs(t, g.Live(port, false), api.ErrNil)
				up(t, g, port, false)
			}
			first(t, g, 0, false)
			has(t, g)
		}
	}
}

// lives calls f with each group that there may be, with each way in which its ports live or do not, and a plain one that is the same.
func lives(t *testing.T, f func(g *group.Group, p *plain)) {
	t.Helper()
	for _, l := range lists() {
		for bits := range 1 << len(l) {
			g, p := made(t, l...), plainOf(l)
			for i, port := range l {
				if bits>>i&1 == 0 {
					errs(t, g.Live(port, false), p.live(port, false))
				}
			}
			f(g, p)
		}
	}
}

// P10.1, P10.2: whichever ports live, each that comes to live, or not, does so, alone; said twice it is as said once.
func TestLive(t *testing.T) {
	lives(t, func(_ *group.Group, was *plain) {
		for port := 1; port <= 4; port++ {
			for _, lives := range []bool{true, false} {
				g, p := made(t, was.ports...), plainOf(was.ports)
				for i, port := range was.ports {
					errs(t, g.Live(port, was.lives[i]), api.OK)
					p.live(port, was.lives[i])
				}
				agree(t, g, p)
				for range 2 {
					errs(t, g.Live(port, lives), p.live(port, lives))
					agree(t, g, p)
				}
			}
		}
	})
}

// P10.1, P10.3: a port that is none of the group's is ErrRange, and changes nothing.
func TestLiveOutside(t *testing.T) {
	lives(t, func(g *group.Group, p *plain) {
		for _, port := range append([]int{1, 2, 3, 4}, outside...) {
			if plainOf(p.ports).up(port) {
				continue
			}
			errs(t, g.Live(port, true), api.ErrRange)
			errs(t, g.Live(port, false), api.ErrRange)
		}
		agree(t, g, p)
	})
}

// P10.2: what is asked changes nothing: asked again it is answered the same.
func TestAskedAgain(t *testing.T) {
	lives(t, func(g *group.Group, p *plain) {
		for range 3 {
			agree(t, g, p)
		}
	})
}
