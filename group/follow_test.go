package group_test

import (
	"slices"
	"testing"

	"catenary/api"
	"catenary/group"
)

// P10.4: the first one lives, and none ahead of it does; without a first one none does.
func TestFirstLives(t *testing.T) {
	lives(t, func(g *group.Group, _ *plain) {
		port, is := g.First()
		ports := g.Ports()
		at := slices.Index(ports, port)
		if !is {
			at = len(ports)
		} else if at < 0 || !g.Up(port) {
			t.Fatalf("%v: the first one is %d", ports, port)
		}
		for _, ahead := range ports[:at] {
			up(t, g, ahead, false)
		}
	})
}

// P10.4: ports behind the first one may come to live, or not, in whatever order: it stays the first one.
func TestBehindTheFirst(t *testing.T) {
	lives(t, func(g *group.Group, p *plain) {
		port, is := g.First()
		if !is {
			return
		}
		behind := p.ports[slices.Index(p.ports, port)+1:]
		for _, lives := range []bool{false, true, false} {
			for _, other := range behind {
				errs(t, g.Live(other, lives), api.OK)
				first(t, g, port, true)
			}
		}
		for _, other := range slices.Backward(behind) {
			errs(t, g.Live(other, true), api.OK)
			first(t, g, port, true)
		}
	})
}

// P10.1 to P10.4: a long row of calls answers what a plain group answers.
func TestLongRows(t *testing.T) {
	last := uint32(10)
	below := func(n int) int { // the next number of a row that looks like chance
		last = last*1664525 + 1013904223
		return int(last>>8) % n
	}
	for _, l := range lists() {
		g, p := made(t, l...), plainOf(l)
		for range 200 {
			port, lives := 1+below(4), below(2) == 0
			if below(8) == 0 {
				port = outside[below(len(outside))]
			}
			errs(t, g.Live(port, lives), p.live(port, lives))
			agree(t, g, p)
		}
		if t.Failed() {
			t.Fatalf("ports %v", l)
		}
	}
}

// P10.3: ports that are handed in are only read, their spare room neither written, whether they are a group's or not.
func TestHandedInIsOnlyRead(t *testing.T) {
	for _, n := range []int{0, 1, 2, 3, 4, 5} {
		ports := []int{4, 2, 1, 3, 9, 8}
		if g, e := group.New(ports[:n]...); e == api.OK {
			g.Live(2, false)
			g.Live(4, false)
			_ = append(g.Ports(), 7)
		}
		if !slices.Equal(ports, []int{4, 2, 1, 3, 9, 8}) {
			t.Errorf("of %d ports: it became %v", n, ports)
		}
	}
}

// P10.3: ports that are handed in are not kept: what becomes of them counts for nothing.
func TestHandedInIsNotKept(t *testing.T) {
	ports := []int{4, 2, 1}
	g := made(t, ports...)
	copy(ports, []int{3, 3, 3})
	agree(t, g, plainOf([]int{4, 2, 1}))
	errs(t, g.Live(3, false), api.ErrRange)
	errs(t, g.Live(4, false), api.OK)
	first(t, g, 2, true)
}

// P10.3: what is answered is new memory: whatever becomes of it, and of its spare room, the group tells the same again, and so do other answers.
func TestAnsweredIsNew(t *testing.T) {
	g := made(t, 4, 2, 1)
	one, other := g.Ports(), g.Ports()
	room := one[:cap(one)]
	for i := range room {
		room[i] = 3
	}
	_ = append(one[:1], 9, 9)
	if !slices.Equal(other, []int{4, 2, 1}) {
		t.Errorf("the other answer became %v", other)
	}
	agree(t, g, plainOf([]int{4, 2, 1}))
}

// Two groups share nothing, though they are of the same ports.
func TestGroupsAreTheirOwn(t *testing.T) {
	ports := []int{2, 3}
	one, other := made(t, ports...), made(t, ports...)
	errs(t, one.Live(2, false), api.OK)
	first(t, other, 2, true)
	errs(t, other.Live(3, false), api.OK)
	up(t, one, 3, true)
	first(t, one, 3, true)
	has(t, one, 2, 3)
	has(t, other, 2, 3)
}
