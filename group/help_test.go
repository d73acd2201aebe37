package group_test

import (
	"math"
	"slices"
	"testing"

	"catenary/api"
	"catenary/group"
)

// outside are numbers that are no ports a group may have: just past the ends, far away, and such as are a port but for a multiple of 8, 64 or 256.
var outside = []int{
	math.MinInt, math.MinInt + 1, -1 << 32, -256, -255, -64, -63, -8, -7, -4, -1, 0,
	5, 6, 7, 8, 9, 12, 16, 32, 33, 63, 64, 65, 68, 256, 257, 260, 1 << 32, 1<<32 + 1, math.MaxInt - 1, math.MaxInt,
}

// plain is a group as the document says it: ports one behind the other, and of each whether it lives.
type plain struct {
	ports []int
	lives []bool
}

// plainOf is that of ports, all of which live.
func plainOf(ports []int) *plain {
	return &plain{slices.Clone(ports), slices.Repeat([]bool{true}, len(ports))}
}

func (p *plain) live(port int, up bool) api.Errno {
	e := api.ErrRange
	for i := range p.ports {
		if p.ports[i] == port {
			p.lives[i], e = up, api.OK
		}
	}
	return e
}

func (p *plain) first() (int, bool) {
	for i := range p.ports {
		if p.lives[i] {
			return p.ports[i], true
		}
	}
	return 0, false
}

func (p *plain) up(port int) bool {
	for i := range p.ports {
		if p.ports[i] == port {
			return p.lives[i]
		}
	}
	return false
}

// mayBe tells whether there may be a group of ports, as the document says it.
func mayBe(ports []int) bool {
	for i, port := range ports {
		if port < 1 || port > 4 || slices.Index(ports, port) != i {
			return false
		}
	}
	return true
}

// rows calls f with all rows of up to so many numbers of a pool.
func rows(pool []int, most int, f func(row []int)) {
	row := []int{}
	var longer func()
	longer = func() {
		f(slices.Clone(row))
		if len(row) == most {
			return
		}
		for _, n := range pool {
			row = append(row, n)
			longer()
			row = row[:len(row)-1]
		}
	}
	longer()
}

// lists are the ports of all groups that there may be.
func lists() [][]int {
	var l [][]int
	rows([]int{1, 2, 3, 4}, 4, func(row []int) {
		if mayBe(row) {
			l = append(l, row)
		}
	})
	return l
}

// made is a group of ports.
func made(t *testing.T, ports ...int) *group.Group {
	t.Helper()
	g, e := group.New(ports...)
	if e != api.OK || g == nil {
		t.Fatalf("%v: error %d", ports, e)
	}
	return g
}

// refused fails unless there is no group of ports, by ErrArg.
func refused(t *testing.T, ports ...int) {
	t.Helper()
	if g, e := group.New(ports...); g != nil || e != api.ErrArg {
		t.Errorf("%v: a group %t, error %d; asked for error %d", ports, g != nil, e, api.ErrArg)
	}
}

// errs fails unless an error is that one.
func errs(t *testing.T, got, want api.Errno) {
	t.Helper()
	if got != want {
		t.Errorf("error %d; asked for %d", got, want)
	}
}

// first fails unless that port is picked; none, if is is false.
func first(t *testing.T, g *group.Group, want int, is bool) {
	t.Helper()
	if got, ok := g.First(); got != want || ok != is {
		t.Errorf("first %d, %t; asked for %d, %t", got, ok, want, is)
	}
}

// up fails unless a group says of a port what is wanted.
func up(t *testing.T, g *group.Group, port int, want bool) {
	t.Helper()
	if got := g.Up(port); got != want {
		t.Errorf("port %d lives: %t; asked for %t", port, got, want)
	}
}

// has fails unless a group tells just those ports, in that order.
func has(t *testing.T, g *group.Group, want ...int) {
	t.Helper()
	if got := g.Ports(); !slices.Equal(got, want) {
		t.Errorf("ports %v; asked for %v", got, want)
	}
}

// agree fails unless a group tells all that the plain one tells.
func agree(t *testing.T, g *group.Group, p *plain) {
	t.Helper()
	want, is := p.first()
	first(t, g, want, is)
	for _, port := range append([]int{1, 2, 3, 4}, outside...) {
		up(t, g, port, p.up(port))
	}
	has(t, g, p.ports...)
}
