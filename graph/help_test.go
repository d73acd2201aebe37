package graph_test

import (
	"math"
	"slices"
	"testing"

	"catenary/api"
	"catenary/graph"
)

// outside are numbers of which there is no switch, no port, and no graph of so many switches: below 0, far away, and such as are one but for a multiple of 2^8 or 2^32.
var outside = []int{math.MinInt, math.MinInt + 1, -1 << 32, -255, -4, -2, -1, 7, 8, 127, 128, 255, 256, 257, 260, 1 << 32, 1<<32 + 1, 1<<32 + 4, math.MaxInt - 1, math.MaxInt}

// end is a port of a switch.
func end(s, port int) api.End {
	return api.End{Switch: s, Port: port}
}

// link is a link between two ports of switches.
func link(s, port, other, otherPort int) api.Link {
	return api.Link{A: end(s, port), B: end(other, otherPort)}
}

// of is a graph of so many switches with these links.
func of(switches int, links ...api.Link) api.Graph {
	return api.Graph{Switches: switches, Links: links}
}

// three is the graph of the document's examples.
func three() api.Graph {
	return of(3, link(1, 1, 2, 1), link(2, 2, 3, 4))
}

// full is a graph of six switches of which every port is an end.
func full() api.Graph {
	g := of(6)
	for s := 1; s <= 6; s++ {
		next, other := s%6+1, (s+1)%6+1
		g.Links = append(g.Links, link(s, 1, next, 2), link(s, 3, other, 4))
	}
	return g
}

// may tells whether a graph may be, as the document says it: each end held against all others.
func may(g api.Graph) bool {
	if g.Switches < 1 || g.Switches > 6 {
		return false
	}
	var all []api.End
	for _, l := range g.Links {
		if l.A.Switch == l.B.Switch {
			return false
		}
		for _, e := range []api.End{l.A, l.B} {
			if e.Switch < 1 || e.Switch > g.Switches || e.Port < 1 || e.Port > 4 || slices.Contains(all, e) {
				return false
			}
			all = append(all, e)
		}
	}
	return true
}

// peerOf is the other end, by going through all links.
func peerOf(g api.Graph, e api.End) (api.End, int, bool) {
	if may(g) {
		for i, l := range g.Links {
			if l.A == e {
				return l.B, i, true
			}
			if l.B == e {
				return l.A, i, true
			}
		}
	}
	return api.End{}, 0, false
}

// portsOf are a switch's ports that are ends, by going through all links.
func portsOf(g api.Graph, s int) []int {
	var ports []int
	if may(g) {
		for _, l := range g.Links {
			for _, e := range []api.End{l.A, l.B} {
				if e.Switch == s {
					ports = append(ports, e.Port)
				}
			}
		}
	}
	slices.Sort(ports)
	return ports
}

// reachOf is where one comes to, by going over all links till no switch is found any more.
func reachOf(g api.Graph, up []bool, from int) []int {
	if !may(g) || from < 1 || from > g.Switches {
		return nil
	}
	found := []int{from}
	for before := 0; before < len(found); {
		before = len(found)
		for i, l := range g.Links {
			if i < len(up) && !up[i] {
				continue
			}
			a, b := slices.Contains(found, l.A.Switch), slices.Contains(found, l.B.Switch)
			if a && !b {
				found = append(found, l.B.Switch)
			}
			if b && !a {
				found = append(found, l.A.Switch)
			}
		}
	}
	slices.Sort(found)
	return found
}

// agree fails unless all that is told of a graph is what the document says.
func agree(t *testing.T, g api.Graph, ups ...[]bool) {
	t.Helper()
	want := api.OK
	if !may(g) {
		want = api.ErrArg
	}
	check(t, g, want)
	for s := -1; s <= 8; s++ {
		for port := -1; port <= 6; port++ {
			other, link, is := peerOf(g, end(s, port))
			peer(t, g, end(s, port), other, link, is)
		}
		ports(t, g, s, portsOf(g, s)...)
		for _, up := range ups {
			reach(t, g, up, s, reachOf(g, up, s)...)
		}
	}
	for _, up := range ups {
		whole(t, g, up, may(g) && len(reachOf(g, up, 1)) == g.Switches)
	}
}

// check fails unless Check answers that.
func check(t *testing.T, g api.Graph, want api.Errno) {
	t.Helper()
	if got := graph.Check(g); got != want {
		t.Errorf("%v: error %d; asked for %d", g, got, want)
	}
}

// peer fails unless Peer answers that.
func peer(t *testing.T, g api.Graph, e, want api.End, wantLink int, wantIs bool) {
	t.Helper()
	if other, link, is := graph.Peer(g, e); other != want || link != wantLink || is != wantIs {
		t.Errorf("%v: the other end of %v is %v, link %d, %t; asked for %v, %d, %t", g, e, other, link, is, want, wantLink, wantIs)
	}
}

// ports fails unless Ports answers just those.
func ports(t *testing.T, g api.Graph, s int, want ...int) {
	t.Helper()
	if got := graph.Ports(g, s); !slices.Equal(got, want) {
		t.Errorf("%v: ports %v of %d; asked for %v", g, got, s, want)
	}
}

// reach fails unless Reach answers just those.
func reach(t *testing.T, g api.Graph, up []bool, from int, want ...int) {
	t.Helper()
	if got := graph.Reach(g, up, from); !slices.Equal(got, want) {
		t.Errorf("%v, %v: from %d one comes to %v; asked for %v", g, up, from, got, want)
	}
}

// whole fails unless Whole answers that.
func whole(t *testing.T, g api.Graph, up []bool, want bool) {
	t.Helper()
	if got := graph.Whole(g, up); got != want {
		t.Errorf("%v, %v: whole %t; asked for %t", g, up, got, want)
	}
}

// chance is a row of numbers that looks like chance.
type chance uint32

// below is the next number of the row, from 0 to n - 1.
func (c *chance) below(n int) int {
	*c = *c*1664525 + 1013904223
	return int(*c>>8) % n
}

// graph is a graph that may be: of each number of switches, with few links or many.
func (c *chance) graph() api.Graph {
	g := of(1 + c.below(6))
	var free []api.End
	for s := 1; s <= g.Switches; s++ {
		for port := 1; port <= 4; port++ {
			free = append(free, end(s, port))
		}
	}
	take := func() api.End {
		i := c.below(len(free))
		e := free[i]
		free = slices.Delete(free, i, i+1)
		return e
	}
	for range c.below(13) {
		if len(free) < 2 {
			break
		}
		if a, b := take(), take(); a.Switch != b.Switch {
			g.Links = append(g.Links, api.Link{A: a, B: b})
		}
	}
	return g
}

// up is a list that tells of some links whether they are up, of fewer or more than there are.
func (c *chance) up(links int) []bool {
	up := make([]bool, c.below(links+3))
	for i := range up {
		up[i] = c.below(3) > 0
	}
	return up
}
