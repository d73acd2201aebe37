package graph

import (
	"iter"

	"catenary/api"
)

// far is what an end's link leads to: the other end. It has the link's number, too.
type far struct {
	end  api.End
	link int
}

// ends looks up what each end of a graph leads to; nothing, and false, if the graph may not be.
func ends(g api.Graph) (map[api.End]far, bool) {
	if g.Switches < 1 || g.Switches > api.MaxSwitches {
		return nil, false
	}
	of := map[api.End]far{}
	for i, l := range g.Links {
		if !isEnd(g, l.A) || !isEnd(g, l.B) || l.A.Switch == l.B.Switch {
			return nil, false
		}
		if !lead(of, l.A, far{l.B, i}) || !lead(of, l.B, far{l.A, i}) {
			return nil, false
		}
	}
	return of, true
}

// lead makes an end lead somewhere; false, if it leads somewhere already.
func lead(of map[api.End]far, e api.End, to far) bool {
	if _, is := of[e]; is {
		return false
	}
	of[e] = to
	return true
}

// isSwitch tells whether a graph has a switch.
func isSwitch(g api.Graph, s int) bool {
	return s >= 1 && s <= g.Switches
}

// isEnd tells whether an end is a port of a switch that a graph has. The local port is none: no link hangs on it.
func isEnd(g api.Graph, e api.End) bool {
	return isSwitch(g, e.Switch) && e.Port >= 1 && e.Port <= api.MaxPorts
}

// isUp tells whether a link is up: one that is not told is.
func isUp(up []bool, link int) bool {
	return link >= len(up) || up[link]
}

// reach goes through the switches to which one comes from one of them over links that are up, each once, the nearer ones first.
func reach(of map[api.End]far, up []bool, from int) iter.Seq[int] {
	return func(yield func(int) bool) {
		var met [api.MaxSwitches + 1]bool
		met[from] = true
		row := []int{from}
		for at := 0; at < len(row) && yield(row[at]); at++ {
			for _, next := range beside(of, up, row[at]) {
				if !met[next] {
					met[next] = true
					row = append(row, next)
				}
			}
		}
	}
}

// beside are the switches at the other ends of a switch's links that are up.
func beside(of map[api.End]far, up []bool, s int) []int {
	var others []int
	for port := 1; port <= api.MaxPorts; port++ {
		if to, is := of[api.End{Switch: s, Port: port}]; is && isUp(up, to.link) {
			others = append(others, to.end.Switch)
		}
	}
	return others
}
