package graph_test

import (
	"slices"
	"testing"

	"catenary/api"
	"catenary/graph"
)

// P12.1, P12.2: the document's own examples.
func TestExamples(t *testing.T) {
	g := three()
	check(t, g, api.OK)
	peer(t, g, end(2, 2), end(3, 4), 1, true)
	peer(t, g, end(3, 1), api.End{}, 0, false)
	ports(t, g, 2, 1, 2)
	reach(t, g, nil, 3, 1, 2, 3)
	reach(t, g, []bool{true, false}, 1, 1, 2)
	whole(t, g, nil, true)
	whole(t, g, []bool{true, false}, false)
}

// P12.1: a graph has 1 to 6 switches; without links it may be, the list nil or not.
func TestSwitches(t *testing.T) {
	for _, n := range append([]int{0}, outside...) {
		check(t, of(n), api.ErrArg)
		check(t, of(n, link(1, 1, 2, 1)), api.ErrArg)
		agree(t, of(n, link(1, 1, 2, 1)), nil)
	}
	for n := 1; n <= 6; n++ {
		check(t, of(n), api.OK)
		check(t, api.Graph{Switches: n, Links: []api.Link{}}, api.OK)
		agree(t, of(n), nil, []bool{}, []bool{true}, []bool{false})
	}
	check(t, api.Graph{}, api.ErrArg)
}

// P12.1: an end is a port 1 to 4 of a switch that there is, whichever of the link's ends it is, and whichever link's.
func TestEnds(t *testing.T) {
	for switches := 2; switches <= 6; switches++ {
		numbers := slices.Concat(outside, []int{0, 1, 2, 3, 4, 5, 6})
		for _, s := range numbers {
			for _, port := range numbers {
				for _, g := range []api.Graph{
					of(switches, link(s, port, 1, 1)),
					of(switches, link(2, 1, s, port)),
					of(switches, link(1, 1, 2, 1), link(s, port, 2, 2)),
					of(switches, link(1, 1, 2, 1), link(1, 3, s, port)),
				} {
					want := api.OK
					if !may(g) {
						want = api.ErrArg
					}
					check(t, g, want)
				}
			}
		}
	}
}

// P12.1: a link joins two unlike switches, whichever ports.
func TestLinkOfOneSwitch(t *testing.T) {
	for s := 1; s <= 6; s++ {
		for port := 1; port <= 4; port++ {
			for other := 1; other <= 4; other++ {
				check(t, of(6, link(s, port, s, other)), api.ErrArg)
				check(t, of(6, link(s%6+1, 1, (s+1)%6+1, 1), link(s, port, s, other)), api.ErrArg)
			}
		}
	}
}

// P12.1: no port is an end twice, of two links, or of the same one told twice, either way round.
func TestEndTwice(t *testing.T) {
	g := full()
	check(t, g, api.OK)
	for i := range g.Links {
		for j := range g.Links {
			if i == j {
				continue
			}
			for _, twice := range []api.Link{
				{A: g.Links[j].A, B: g.Links[i].B},
				{A: g.Links[j].B, B: g.Links[i].B},
				{A: g.Links[i].A, B: g.Links[j].A},
				{A: g.Links[i].A, B: g.Links[j].B},
				g.Links[j],
				{A: g.Links[j].B, B: g.Links[j].A},
			} {
				links := slices.Clone(g.Links)
				links[i] = twice
				check(t, of(6, links...), api.ErrArg)
				agree(t, of(6, links...), nil)
			}
		}
	}
	check(t, of(6, append(slices.Clone(g.Links), link(1, 1, 2, 1))...), api.ErrArg)
}

// P12.1: two switches may have as many links between them as they have ports.
func TestLinksSideBySide(t *testing.T) {
	g := of(2)
	for port := 1; port <= 4; port++ {
		g.Links = append(g.Links, link(2, port, 1, 5-port))
		agree(t, g, nil, []bool{false}, []bool{false, false, false, false}, []bool{false, false, true})
	}
	check(t, g, api.OK)
	reach(t, g, []bool{false, false, false, true}, 1, 1, 2)
	reach(t, g, []bool{false, false, false, false}, 1, 1)
}

// P12.1: each end's other end, and its link's number; no other port has one.
func TestPeer(t *testing.T) {
	for _, g := range []api.Graph{of(2, link(2, 4, 1, 3)), three(), full()} {
		for i, l := range g.Links {
			peer(t, g, l.A, l.B, i, true)
			peer(t, g, l.B, l.A, i, true)
		}
		agree(t, g)
		for _, n := range outside {
			for s := 1; s <= 6; s++ {
				peer(t, g, end(n, s), api.End{}, 0, false)
				peer(t, g, end(s, n), api.End{}, 0, false)
			}
			peer(t, g, end(n, n), api.End{}, 0, false)
			ports(t, g, n)
		}
	}
}

// P12.1: ports rise, in whatever order the links are told.
func TestPorts(t *testing.T) {
	g := of(5, link(1, 3, 2, 4), link(3, 2, 1, 1), link(1, 4, 4, 3), link(5, 1, 1, 2))
	ports(t, g, 1, 1, 2, 3, 4)
	ports(t, g, 2, 4)
	ports(t, g, 3, 2)
	ports(t, g, 4, 3)
	ports(t, g, 5, 1)
	ports(t, g, 6)
	ports(t, g, 0)
	ports(t, of(5, g.Links[:2]...), 1, 1, 3)
	ports(t, of(1), 1)
}

// P12.2: in a row of switches one comes as far as the first link that is down, both ways; the list's places are the links'.
func TestRow(t *testing.T) {
	g := of(6)
	for s := 1; s < 6; s++ {
		g.Links = append(g.Links, link(s, 1, s+1, 2))
	}
	row := []int{1, 2, 3, 4, 5, 6}
	for down := range 6 {
		up := []bool{true, true, true, true, true}
		if down < 5 {
			up[down] = false
		}
		for from := 1; from <= 6; from++ {
			want := row[:down+1]
			if from > down+1 {
				want = row[down+1:]
			}
			reach(t, g, up, from, want...)
		}
		whole(t, g, up, down == 5)
	}
}

// P12.2: links that are not told are up, those that there are not count for nothing.
func TestNotTold(t *testing.T) {
	g := three()
	for _, up := range [][]bool{nil, {}, {true}, {true, true}, {true, true, false}, {true, true, false, false, false}} {
		reach(t, g, up, 1, 1, 2, 3)
		whole(t, g, up, true)
	}
	for _, up := range [][]bool{{false}, {false, true}, {false, true, true}} {
		reach(t, g, up, 1, 1)
		reach(t, g, up, 2, 2, 3)
		reach(t, g, up, 3, 2, 3)
		whole(t, g, up, false)
	}
}

// P12.2: switches rise, wherever one comes from, and however far they are.
func TestReachRises(t *testing.T) {
	g := of(6, link(6, 1, 1, 1), link(1, 2, 5, 1), link(5, 2, 2, 1), link(2, 2, 4, 1), link(4, 2, 3, 1))
	for from := 1; from <= 6; from++ {
		reach(t, g, nil, from, 1, 2, 3, 4, 5, 6)
	}
	whole(t, g, nil, true)
	reach(t, g, []bool{true, true, false}, 5, 1, 5, 6)
	reach(t, g, []bool{true, true, false}, 3, 2, 3, 4)
}

// P12.2: one switch alone is whole; one that is alone among others is reached from itself only.
func TestAlone(t *testing.T) {
	reach(t, of(1), nil, 1, 1)
	whole(t, of(1), nil, true)
	whole(t, of(1), []bool{false}, true)
	for n := 2; n <= 6; n++ {
		for from := 1; from <= n; from++ {
			reach(t, of(n), nil, from, from)
		}
		whole(t, of(n), nil, false)
	}
	// The switch 1 is the one that is alone, or another one is.
	whole(t, of(3, link(2, 1, 3, 1)), nil, false)
	whole(t, of(3, link(2, 1, 1, 1)), nil, false)
}

// P12.2: from a switch that there is not one comes nowhere.
func TestFromNowhere(t *testing.T) {
	for _, g := range []api.Graph{of(1), three(), full()} {
		for _, from := range append([]int{0, g.Switches + 1}, outside...) {
			for _, up := range [][]bool{nil, {}, {true}, {false, false}} {
				reach(t, g, up, from)
			}
		}
	}
}

// Of a graph that may not be: false, 0, nothing, of the ends that might be, too.
func TestMayNotBe(t *testing.T) {
	for _, g := range []api.Graph{
		{},
		of(0, three().Links...),
		of(-1, three().Links...),
		of(2, three().Links...),
		of(7, three().Links...),
		of(3, append(three().Links, link(1, 1, 3, 3))...),
		of(3, append(three().Links, link(1, 2, 1, 3))...),
		of(3, append(three().Links, link(1, 0, 3, 3))...),
		of(3, append(three().Links, link(1, 2, 3, 5))...),
		of(3, append([]api.Link{{}}, three().Links...)...),
	} {
		check(t, g, api.ErrArg)
		agree(t, g, nil, []bool{true, true, true}, []bool{false})
		for _, l := range g.Links {
			peer(t, g, l.A, api.End{}, 0, false)
			peer(t, g, l.B, api.End{}, 0, false)
		}
	}
}

// R1: a graph of very many links, and a list of very many bools, are told what they are.
func TestVeryMany(t *testing.T) {
	g := three()
	g.Links = append(g.Links, slices.Repeat([]api.Link{link(1, 3, 3, 3)}, 1<<20)...)
	check(t, g, api.ErrArg)
	agree(t, three(), slices.Repeat([]bool{true}, 1<<20), make([]bool, 1<<20))
	if got := graph.Reach(g, nil, 1); len(got) != 0 {
		t.Errorf("one comes to %v", got)
	}
}
