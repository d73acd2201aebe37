package graph_test

import (
	"slices"
	"testing"

	"catenary/api"
	"catenary/graph"
)

// P12.3: what is handed in is only read, its spare room neither written, whether the graph may be or not.
func TestHandedInIsOnlyRead(t *testing.T) {
	for n := range 4 {
		links := []api.Link{link(2, 2, 3, 4), link(1, 1, 2, 1), link(1, 1, 3, 1), link(1, 2, 3, 2)}
		up := []bool{true, false, true, false}
		wasLinks, wasUp := slices.Clone(links), slices.Clone(up)
		g := api.Graph{Switches: 3, Links: links[:n]}
		graph.Check(g)
		graph.Peer(g, end(2, 1))
		_ = append(graph.Ports(g, 2), 7)
		_ = append(graph.Reach(g, up[:n], 3), 7)
		graph.Whole(g, up[:n])
		if !slices.Equal(links, wasLinks) || !slices.Equal(up, wasUp) {
			t.Errorf("%d links: they became %v, %v", n, links, up)
		}
	}
}

// P12.3: nothing is kept: a graph that changes is told as it is then.
func TestHandedInIsNotKept(t *testing.T) {
	g, up := three(), []bool{true, true}
	agree(t, g, up)
	g.Links[1] = link(3, 4, 2, 3)
	up[0] = false
	agree(t, g, up)
	ports(t, g, 2, 1, 3)
	reach(t, g, up, 1, 1)
	g.Links[0] = g.Links[1]
	agree(t, g, up)
	check(t, g, api.ErrArg)
}

// P12.3: what is answered is new memory: whatever becomes of it, and of its spare room, other answers are what they were.
func TestAnsweredIsNew(t *testing.T) {
	g := full()
	for range 2 {
		p, r := graph.Ports(g, 2), graph.Reach(g, nil, 2)
		others, reached := graph.Ports(g, 2), graph.Reach(g, nil, 2)
		for _, list := range [][]int{p, r} {
			for i := range list[:cap(list)] {
				list[:cap(list)][i] = 9
			}
		}
		if !slices.Equal(others, []int{1, 2, 3, 4}) || !slices.Equal(reached, []int{1, 2, 3, 4, 5, 6}) {
			t.Errorf("they became %v, %v", others, reached)
		}
		agree(t, g, nil)
	}
}
