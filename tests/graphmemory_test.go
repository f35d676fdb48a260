package tests

import (
	"slices"
	"testing"

	"loop.example/g00419/impl"
)

func memoryGraphs() [][]impl.Tuple {
	return [][]impl.Tuple{{}, toldTwo(304, 5), lineGraph(3, 1, 2, 3, 4), fullGraph(1), fullGraph(maxTime)[:55], edgeGraph(), {{Key: 303, Value: 1}}, keysTwo(305, 304), fullGraph(0), longList(impl.MaxList + 1)}
}

func memoryRoutes() [][]impl.Route {
	return [][]impl.Route{{}, plainRoutes()[:1], plainRoutes(), edgeRoutes(), fullRoutes(), fullRoutes()[:7], routesAt(2, 1), risingRoutes(9), risingRoutes(impl.MaxList + 1)}
}

// guardedRoutes answers a copy of list in the middle of a greater array, and that array.
func guardedRoutes(list []impl.Route) ([]impl.Route, []impl.Route) {
	const margin = 20
	room := make([]impl.Route, margin+len(list)+margin)
	for i := range room {
		room[i] = impl.Route{To: -7, Next: -8, Cost: -9, Hops: -10}
	}
	copy(room[margin:], list)
	return room[margin : margin+len(list)], room
}

func TestPromise1GraphsStayAsTheyWere(t *testing.T) {
	for _, given := range memoryGraphs() {
		g, room := guardedSet(given)
		before := slices.Clone(room)
		for from := 0; from <= 9; from++ {
			impl.GraphOK(g)
			impl.Distances(g, from)
			impl.RoutesOf(g, from)
			if !slices.Equal(room, before) {
				t.Fatalf("a call wrote into its graph of %d, or around it", len(given))
			}
		}
	}
}

func TestPromise1RoutesStayAsTheyWere(t *testing.T) {
	for _, given := range memoryRoutes() {
		for _, other := range memoryRoutes() {
			a, room := guardedRoutes(given)
			b, otherRoom := guardedRoutes(other)
			before, otherBefore := slices.Clone(room), slices.Clone(otherRoom)
			impl.RouteTo(a, 4)
			impl.RouteTo(a, 0)
			impl.RoutesText(a)
			impl.RouteDiff(a, b)
			impl.RouteDiff(a, a)
			if !slices.Equal(room, before) || !slices.Equal(otherRoom, otherBefore) {
				t.Fatalf("a call wrote into its routes, %d and %d, or around them", len(given), len(other))
			}
		}
	}
}

func TestPromise1LinksAndTopologiesOfGraphsStayAsTheyWere(t *testing.T) {
	for _, given := range memoryTopologies() {
		for _, givenLinks := range append(memoryLinks(), symLinksOf(2, 3, 7), longLinks()[0]) {
			g := guardTopology(given, impl.Tc{})
			links, room := guardedLinks(givenLinks)
			before, linksBefore := g.kept(), slices.Clone(room)
			for me := 0; me <= 9; me++ {
				impl.GraphOf(me, links, g.top, 9)
				impl.GraphOf(me, links, g.top, -1)
				if !g.isAs(before) || !slices.Equal(room, linksBefore) {
					t.Fatalf("GraphOf of %d wrote into its %d links or its topology, or around them", me, len(givenLinks))
				}
			}
		}
	}
}

func TestPromise1GraphsThatAreAnsweredAreNewMemory(t *testing.T) {
	for _, given := range memoryTopologies() {
		for _, givenLinks := range append(memoryLinks(), symLinksOf(2, 3, 7)) {
			for _, now := range []int{-1, 9, 25, maxTime} {
				g := guardTopology(given, impl.Tc{})
				links, room := guardedLinks(givenLinks)
				before, linksBefore := g.kept(), slices.Clone(room)
				got, code := impl.GraphOf(3, links, g.top, now)
				want := slices.Clone(got)
				again, codeAgain := impl.GraphOf(3, links, g.top, now)
				g.wipe()
				clear(room)
				if !slices.Equal(got, want) {
					t.Errorf("GraphOf of %s answers memory of an argument", briefTopology(given))
				}
				g.restore(before)
				copy(room, linksBefore)
				clear(got[:cap(got)])
				if !g.isAs(before) || !slices.Equal(room, linksBefore) {
					t.Errorf("GraphOf of %s answers memory of an argument", briefTopology(given))
				}
				if !slices.Equal(again, want) || code != codeAgain {
					t.Errorf("GraphOf of %s answers otherwise at its second call, or the same memory", briefTopology(given))
				}
			}
		}
	}
}

func TestPromise1WhatIsAskedOfGraphsIsNewMemory(t *testing.T) {
	for _, given := range memoryGraphs() {
		for from := 0; from <= 9; from++ {
			g, room := guardedSet(given)
			costs, _ := impl.Distances(g, from)
			routes, _ := impl.RoutesOf(g, from)
			wantCosts, wantRoutes := slices.Clone(costs), slices.Clone(routes)
			costsAgain, _ := impl.Distances(g, from)
			routesAgain, _ := impl.RoutesOf(g, from)
			clear(costsAgain[:cap(costsAgain)])
			clear(routesAgain[:cap(routesAgain)])
			clear(room)
			if !slices.Equal(costs, wantCosts) || !slices.Equal(routes, wantRoutes) {
				t.Errorf("an answer of %s from %d shares memory with another one, or with the graph", brief(given), from)
			}
		}
	}
}

func TestPromise1WhatIsAskedOfRoutesIsNewMemory(t *testing.T) {
	for _, given := range memoryRoutes() {
		for _, other := range memoryRoutes() {
			a, room := guardedRoutes(given)
			b, otherRoom := guardedRoutes(other)
			lines, _ := impl.RoutesText(a)
			diff, _ := impl.RouteDiff(a, b)
			x, _ := impl.RouteTo(a, 4)
			wantLines, wantDiff, wantX := slices.Clone(lines), slices.Clone(diff), x
			linesAgain, _ := impl.RoutesText(a)
			diffAgain, _ := impl.RouteDiff(a, b)
			clear(linesAgain[:cap(linesAgain)])
			clear(diffAgain[:cap(diffAgain)])
			clear(room)
			clear(otherRoom)
			if !slices.Equal(lines, wantLines) || !slices.Equal(diff, wantDiff) || x != wantX {
				t.Errorf("an answer of %s and %s shares memory with another one, or with the routes", brief(given), brief(other))
			}
		}
	}
}

func TestPromise1WaysAreAlikeAtEachCall(t *testing.T) {
	d := &draws{129}
	wrongs, wrongLists, wrongTops := wrongGraphs(), wrongRoutes(), wrongTopologies()
	for i := range 300 {
		g, from, links, top, now := d.closeGraph(), 1+d.next(8), d.links(), d.topology(), d.next(40)
		a, b := d.routes(), d.routes()
		for range 2 {
			checkWays(t, g, from)
			checkGraphOf(t, from, links, top, now)
			checkDiff(t, a, b)
			impl.RoutesOf(wrongs[i%len(wrongs)], from)
			impl.RoutesOf(fullGraph(1), 9)
			impl.Distances(longList(impl.MaxList+1), from)
			impl.Distances(fullGraph(maxTime), from)
			impl.GraphOf(from, links, wrongTops[i%len(wrongTops)], now)
			impl.GraphOf(9, links, top, now)
			impl.RouteDiff(b, wrongLists[i%len(wrongLists)])
			impl.RouteDiff(b, a)
			impl.RouteTo(a, -1)
		}
	}
}

func TestPromise1WayCallsAtOnceAnswerAlike(t *testing.T) {
	g, links, top, a, b := fullTwo(), symLinksOf(2, 3, 7), plainTopology(), plainRoutes(), fullRoutes()
	graph, diff := wantGraphOf(1, links, top, 10), wantDiff(a, b)
	routes, _ := impl.RoutesOf(g, 3)
	checkWays(t, g, 3)
	done := make(chan bool)
	for range 8 {
		go func() {
			right := true
			for range 200 {
				got, _ := impl.RoutesOf(g, 3)
				costs, _ := impl.Distances(g, 3)
				made, _ := impl.GraphOf(1, links, top, 10)
				lines, _ := impl.RouteDiff(a, b)
				right = right && slices.Equal(got, routes) && len(costs) == 8 && slices.Equal(made, graph) && slices.Equal(lines, diff)
			}
			done <- right
		}()
	}
	for range 8 {
		if !<-done {
			t.Error("calls at once answer otherwise")
		}
	}
}
