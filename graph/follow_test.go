package graph_test

import (
	"slices"
	"testing"

	"catenary/api"
	"catenary/graph"
)

// graphs calls f with many graphs that may be, the full one among them, and with lists of which links are up.
func graphs(f func(g api.Graph, up []bool)) {
	c := chance(12)
	for range 400 {
		g := c.graph()
		for range 3 {
			f(g, c.up(len(g.Links)))
		}
		f(g, nil)
	}
	for range 100 {
		f(full(), c.up(12))
	}
}

// P12.1, P12.2: all that is told of many graphs is what the document says.
func TestManyGraphs(t *testing.T) {
	reached := [7]int{}
	graphs(func(g api.Graph, up []bool) {
		agree(t, g, up)
		reached[len(graph.Reach(g, up, 1))]++
		if t.Failed() {
			t.FailNow()
		}
	})
	for n := 1; n <= 6; n++ {
		if reached[n] < 10 {
			t.Errorf("%d graphs in which one comes to %d switches: too few", reached[n], n)
		}
	}
}

// P12.1: many graphs of which one thing is wrong, or right by chance.
func TestManyFaults(t *testing.T) {
	c := chance(21)
	were := 0
	for range 3000 {
		g := c.graph()
		if len(g.Links) == 0 {
			continue
		}
		l := &g.Links[c.below(len(g.Links))]
		e := &l.A
		if c.below(2) == 0 {
			e = &l.B
		}
		switch c.below(4) {
		case 0:
			e.Switch = c.below(9) - 1
		case 1:
			e.Port = c.below(7) - 1
		case 2:
			*e = end(1+c.below(6), 1+c.below(4))
		case 3:
			g.Switches = c.below(9) - 1
		}
		if !may(g) {
			were++
		}
		agree(t, g, c.up(len(g.Links)))
		if t.Failed() {
			t.FailNow()
		}
	}
	if were < 500 {
		t.Errorf("only %d graphs may not be", were)
	}
}

// P12.4: the other end's other end is the end itself, and has the same link; the ports of all switches are just the links' ends.
func TestOtherEndsOtherEnd(t *testing.T) {
	graphs(func(g api.Graph, _ []bool) {
		n := 0
		for s := 1; s <= g.Switches; s++ {
			for _, port := range graph.Ports(g, s) {
				n++
				other, link, is := graph.Peer(g, end(s, port))
				if !is || !slices.Contains(graph.Ports(g, other.Switch), other.Port) {
					t.Fatalf("%v: %d.%d is a port, its other end %v, %t", g, s, port, other, is)
				}
				peer(t, g, other, end(s, port), link, true)
			}
		}
		if n != 2*len(g.Links) {
			t.Errorf("%v: %d ends", g, n)
		}
	})
}

// P12.4: whoever is reached from someone reaches that one, and the same switches; whoever is not reaches none of them.
func TestReachBothWays(t *testing.T) {
	graphs(func(g api.Graph, up []bool) {
		for from := 1; from <= g.Switches; from++ {
			reached := graph.Reach(g, up, from)
			if !slices.Contains(reached, from) {
				t.Errorf("%v, %v: %d does not reach itself", g, up, from)
			}
			for other := 1; other <= g.Switches; other++ {
				if slices.Contains(reached, other) {
					reach(t, g, up, other, reached...)
				} else if slices.Contains(graph.Reach(g, up, other), from) {
					t.Errorf("%v, %v: %d reaches %d, not the other way", g, up, other, from)
				}
			}
		}
		whole(t, g, up, len(graph.Reach(g, up, 1)) == g.Switches)
	})
}

// P12.5: a link more that is up loses nobody, and what was whole stays whole: one that was down, or not there.
func TestLinkMore(t *testing.T) {
	loses := func(g api.Graph, up []bool, more api.Graph, moreUp []bool) {
		for from := 1; from <= g.Switches; from++ {
			reached := graph.Reach(more, moreUp, from)
			for _, s := range graph.Reach(g, up, from) {
				if !slices.Contains(reached, s) {
					t.Errorf("%v, %v: %d is lost from %d", more, moreUp, s, from)
				}
			}
		}
		if graph.Whole(g, up) && !graph.Whole(more, moreUp) {
			t.Errorf("%v, %v is not whole any more", more, moreUp)
		}
	}
	graphs(func(g api.Graph, up []bool) {
		for i := range up {
			more := slices.Clone(up)
			more[i] = true
			loses(g, up, g, more)
		}
		if len(g.Links) > 0 && len(up) < len(g.Links) {
			last := len(g.Links) - 1
			loses(of(g.Switches, g.Links[:last]...), up, g, up)
		}
	})
}
