package tests

import (
	"slices"
	"testing"

	"loop.example/g00419/impl"
)

// topologyCalls has the calls that answer a topology, with arguments for which they keep all, some or nothing of it.
var topologyCalls = []struct {
	name string
	call func(impl.Topology, impl.Tc) (impl.Topology, int)
}{
	{"HearTc of the first", func(t impl.Topology, x impl.Tc) (impl.Topology, int) { return impl.HearTc(t, 1, 10, x) }},
	{"HearTc of one in the middle", func(t impl.Topology, x impl.Tc) (impl.Topology, int) { return impl.HearTc(t, 3, 10, x) }},
	{"HearTc of the last", func(t impl.Topology, x impl.Tc) (impl.Topology, int) { return impl.HearTc(t, 8, 10, x) }},
	{"HearTc of an older number", func(t impl.Topology, x impl.Tc) (impl.Topology, int) {
		return impl.HearTc(t, 3, 10, impl.Tc{Ansn: 65000, Valid: 15, List: x.List})
	}},
	{"HearTc with a wrong now", func(t impl.Topology, x impl.Tc) (impl.Topology, int) { return impl.HearTc(t, 3, -1, x) }},
	{"HearTc with a wrong source", func(t impl.Topology, x impl.Tc) (impl.Topology, int) { return impl.HearTc(t, 9, 10, x) }},
	{"TopologyExpire of none", func(t impl.Topology, x impl.Tc) (impl.Topology, int) { return impl.TopologyExpire(t, -1) }},
	{"TopologyExpire of some", func(t impl.Topology, x impl.Tc) (impl.Topology, int) { return impl.TopologyExpire(t, 13) }},
	{"TopologyExpire of others", func(t impl.Topology, x impl.Tc) (impl.Topology, int) { return impl.TopologyExpire(t, 26) }},
	{"TopologyExpire of all", func(t impl.Topology, x impl.Tc) (impl.Topology, int) { return impl.TopologyExpire(t, maxTime) }},
}

// guardedSources answers a copy of list in the middle of a greater array, and that array.
func guardedSources(list []impl.Source) ([]impl.Source, []impl.Source) {
	const margin = 20
	room := make([]impl.Source, margin+len(list)+margin)
	for i := range room {
		room[i] = impl.Source{Addr: -7, Ansn: -8, Until: -9}
	}
	copy(room[margin:], list)
	return room[margin : margin+len(list)], room
}

// A guardedTopology stands, and hears an advertisement that stands, in the middle of greater arrays.
type guardedTopology struct {
	top     impl.Topology
	x       impl.Tc
	sources []impl.Source
	edges   []impl.Tuple
	heard   []impl.Edge
}

func guardTopology(top impl.Topology, x impl.Tc) guardedTopology {
	var g guardedTopology
	g.top.Sources, g.sources = guardedSources(top.Sources)
	g.top.Edges, g.edges = guardedSet(top.Edges)
	g.x, g.heard = guardedTc(x)
	return g
}

// kept is a copy of all that stands there, also ahead of the lists and behind their ends.
func (g guardedTopology) kept() guardedTopology {
	return guardedTopology{sources: slices.Clone(g.sources), edges: slices.Clone(g.edges), heard: slices.Clone(g.heard)}
}

func (g guardedTopology) isAs(k guardedTopology) bool {
	return slices.Equal(g.sources, k.sources) && slices.Equal(g.edges, k.edges) && slices.Equal(g.heard, k.heard)
}

func (g guardedTopology) wipe() {
	clear(g.sources)
	clear(g.edges)
	clear(g.heard)
}

func (g guardedTopology) restore(k guardedTopology) {
	copy(g.sources, k.sources)
	copy(g.edges, k.edges)
	copy(g.heard, k.heard)
}

func cloned(t impl.Topology) impl.Topology {
	return impl.Topology{Sources: slices.Clone(t.Sources), Edges: slices.Clone(t.Edges)}
}

func memoryTopologies() []impl.Topology {
	stale := fullTopology()
	stale.Sources[2].Ansn = 65001
	return []impl.Topology{
		{}, loneTopology(3), loneTopology(1, 8), plainTopology(), fullTopology(), edgeTopology(), stale,
		{Sources: sourcesAt(2, 1)}, {Edges: fullTwo()}, {Sources: risingSources(9)}, {Sources: risingSources(8), Edges: longList(impl.MaxList + 1)},
	}
}

func TestPromise1TopologiesStayAsTheyWere(t *testing.T) {
	for _, given := range memoryTopologies() {
		for _, x := range []impl.Tc{plainTc(), tcOf(risingEdges(8)...), {Valid: 1}, {}, tcOf(edgesTo(2, 1)...)} {
			g := guardTopology(given, x)
			before := g.kept()
			for _, c := range topologyCalls {
				c.call(g.top, g.x)
				if !g.isAs(before) {
					t.Fatalf("%s wrote into its topology of %d and %d or its advertisement, or around them", c.name, len(given.Sources), len(given.Edges))
				}
			}
			impl.TopologyOK(g.top)
			impl.EdgesFrom(g.top, 3)
			impl.SourceOf(g.top, 3)
			impl.TopologyText(g.top)
			if !g.isAs(before) {
				t.Fatalf("a call that answers no topology wrote into its one of %d and %d, or around it", len(given.Sources), len(given.Edges))
			}
		}
	}
}

func TestPromise1TopologiesThatAreAnsweredAreNewMemory(t *testing.T) {
	for _, given := range memoryTopologies() {
		g := guardTopology(given, plainTc())
		before := g.kept()
		for _, c := range topologyCalls {
			got, code := c.call(g.top, g.x)
			want := cloned(got)
			again, codeAgain := c.call(g.top, g.x)
			g.wipe()
			if !sameTopology(got, want) {
				t.Errorf("%s of %d and %d answers memory of an argument", c.name, len(given.Sources), len(given.Edges))
			}
			g.restore(before)
			clear(got.Sources[:cap(got.Sources)])
			clear(got.Edges[:cap(got.Edges)])
			if !g.isAs(before) {
				t.Errorf("%s of %d and %d answers memory of an argument", c.name, len(given.Sources), len(given.Edges))
			}
			if !sameTopology(again, want) || code != codeAgain {
				t.Errorf("%s of %d and %d answers otherwise at its second call, or the same memory", c.name, len(given.Sources), len(given.Edges))
			}
		}
	}
}

// What is answered as it was is new memory, too.
func TestPromise1StaleTopologiesAreNewMemory(t *testing.T) {
	for _, given := range []impl.Topology{plainTopology(), fullTopology(), loneTopology(3)} {
		older := impl.Tc{Ansn: (given.Sources[0].Ansn + 65535) % 65536, Valid: 15, List: edgesTo(1, 5)}
		g := guardTopology(given, older)
		got, code := impl.HearTc(g.top, given.Sources[0].Addr, 10, g.x)
		g.wipe()
		if !sameTopology(got, given) || code != impl.ErrStale {
			t.Errorf("an older number: %v, %d, not %v", got, code, given)
		}
	}
}

func TestPromise1WhatIsAskedOfTopologiesIsNewMemory(t *testing.T) {
	for _, given := range memoryTopologies() {
		g := guardTopology(given, plainTc())
		edges, _ := impl.EdgesFrom(g.top, 3)
		lines, _ := impl.TopologyText(g.top)
		source, _ := impl.SourceOf(g.top, 3)
		wantEdges, wantLines, wantSource := slices.Clone(edges), slices.Clone(lines), source
		edgesAgain, _ := impl.EdgesFrom(g.top, 3)
		linesAgain, _ := impl.TopologyText(g.top)
		clear(edgesAgain[:cap(edgesAgain)])
		clear(linesAgain[:cap(linesAgain)])
		g.wipe()
		if !slices.Equal(edges, wantEdges) || !slices.Equal(lines, wantLines) || source != wantSource {
			t.Errorf("an answer of %s shares memory with another one, or with the topology", briefTopology(given))
		}
	}
}

func TestPromise1TopologiesAreAlikeAtEachCall(t *testing.T) {
	d := &draws{105}
	wrongs, wrongTc := wrongTopologies(), wrongTcs()
	for i := range 500 {
		top, x, from, now := d.topology(), d.tc(), 1+d.next(8), d.next(40)
		checkHearTc(t, top, from, now, x)
		checkTopology(t, top)
		impl.HearTc(wrongs[i%len(wrongs)], from, now, x)
		impl.HearTc(top, from, now, wrongTc[i%len(wrongTc)])
		impl.HearTc(top, from, now, impl.Tc{Ansn: (x.Ansn + 1) % 65536, Valid: 1})
		impl.TopologyExpire(top, maxTime)
		impl.TopologyText(wrongs[i%len(wrongs)])
		checkHearTc(t, top, from, now, x)
		checkTopology(t, top)
		checkTopologyExpire(t, top, now)
	}
}

func TestPromise1TopologyCallsAtOnceAnswerAlike(t *testing.T) {
	top, x := plainTopology(), plainTc()
	want, _ := wantHearTc(top, 3, 10, x)
	lines := wantTopologyText(top)
	done := make(chan bool)
	for range 8 {
		go func() {
			right := true
			for range 200 {
				got, _ := impl.HearTc(top, 3, 10, x)
				text, _ := impl.TopologyText(top)
				left, _ := impl.TopologyExpire(top, 26)
				right = right && sameTopology(got, want) && slices.Equal(text, lines) && len(left.Sources) == 2 && len(left.Edges) == 1
			}
			done <- right
		}()
	}
	for range 8 {
		if !<-done {
			t.Error("calls at once answer otherwise")
		}
	}
}
