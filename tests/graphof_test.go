package tests

import (
	"slices"
	"testing"

	"loop.example/g00419/impl"
)

// outLinks has a link of each address and the Out behind it, symmetric until 20.
func outLinks(pairs ...int) []impl.Link {
	var list []impl.Link
	for i := 0; i < len(pairs); i += 2 {
		x := symLink(pairs[i])
		x.Out = pairs[i+1]
		list = append(list, x)
	}
	return list
}

// topologyWith has these edges, and all sources, until 30.
func topologyWith(edges ...impl.Tuple) impl.Topology {
	x := impl.Topology{Edges: edges}
	for addr := 1; addr <= 8; addr++ {
		x.Sources = append(x.Sources, impl.Source{Addr: addr, Ansn: 7, Until: 30})
	}
	return x
}

// costGraph has an edge of each key, and the cost behind it, as GraphOf tells them.
func costGraph(pairs ...int) []impl.Tuple {
	list := toldTwo(pairs...)
	for i := range list {
		list[i].Until = 0
	}
	return list
}

// wantGraphOf goes through all pairs of addresses, and asks of each what chapter 12 says of it.
func wantGraphOf(me int, links []impl.Link, top impl.Topology, now int) []impl.Tuple {
	var want []impl.Tuple
	for from := 1; from <= 8; from++ {
		for to := 1; to <= 8; to++ {
			cost := 0
			if from == me && to != me {
				if x := linkAt(links, to); wantStatus(x, now) == 2 {
					cost = x.Out
				}
			} else if to != me {
				if x, there := twoAt(top.Edges, from, to); there && x.Until > now {
					cost = x.Value
				}
			}
			if cost > 0 {
				want = append(want, impl.Tuple{Key: 100*from + to, Value: cost})
			}
		}
	}
	return want
}

// checkGraphOf asks that what is answered is a right graph, too, and that all ways from us begin with links.
func checkGraphOf(t *testing.T, me int, links []impl.Link, top impl.Topology, now int) {
	t.Helper()
	got, code := impl.GraphOf(me, links, top, now)
	if want := wantGraphOf(me, links, top, now); !slices.Equal(got, want) || code != impl.OK {
		t.Fatalf("GraphOf(%d, %v, %v, %d) = %v, %d, not %v", me, links, top, now, got, code, want)
	}
	if !impl.GraphOK(got) {
		t.Fatalf("GraphOf(%d, %v, %v, %d) made a graph that is not right: %v", me, links, top, now, got)
	}
	routes, code := impl.RoutesOf(got, me)
	for _, x := range routes {
		if y := linkAt(links, x.Next); code != impl.OK || wantStatus(y, now) != 2 || y.Out < 1 || y.Out > x.Cost {
			t.Fatalf("RoutesOf(%v, %d): %v, %d, with links %v at %d", got, me, x, code, links, now)
		}
	}
	checkTheorem(t, got, me)
}

func TestPromise12GraphsByHand(t *testing.T) {
	lost := outLinks(2, 4, 3, 6)
	lost[0].Heard = 10
	heard := outLinks(2, 4, 3, 6)
	heard[1].Sym = 10
	for _, c := range []struct {
		what  string
		me    int
		links []impl.Link
		top   impl.Topology
		want  []impl.Tuple
	}{
		{"nothing", 1, nil, impl.Topology{}, nil},
		{"sources alone", 1, nil, topologyWith(), nil},
		{"links alone", 1, outLinks(2, 4, 3, 6), impl.Topology{}, costGraph(102, 4, 103, 6)},
		{"links ahead of us", 5, outLinks(2, 4, 3, 6, 8, 9), impl.Topology{}, costGraph(502, 4, 503, 6, 508, 9)},
		{"a link that is lost", 1, lost, impl.Topology{}, costGraph(103, 6)},
		{"a link that is heard alone", 1, heard, impl.Topology{}, costGraph(102, 4)},
		{"links with Out 0", 1, outLinks(2, 0, 3, 6, 4, 0), impl.Topology{}, costGraph(103, 6)},
		{"a link with our own address", 3, outLinks(2, 4, 3, 6, 4, 5), impl.Topology{}, costGraph(302, 4, 304, 5)},
		{"a link with our own address alone", 3, outLinks(3, 6), impl.Topology{}, nil},
		{"the least and the greatest Out", 4, outLinks(1, 1, 8, maxMetric), impl.Topology{}, costGraph(401, 1, 408, maxMetric)},
		{"edges alone", 1, nil, topologyWith(toldTwo(203, 5, 302, 6)...), costGraph(203, 5, 302, 6)},
		{"edges that begin at us", 3, nil, topologyWith(toldTwo(203, 5, 302, 6, 304, 7, 405, 8)...), costGraph(405, 8)},
		{"edges that end at us", 2, nil, topologyWith(toldTwo(302, 6, 304, 7, 402, 8)...), costGraph(304, 7)},
		{"an edge of ours, told otherwise than our link", 1, outLinks(2, 4), topologyWith(toldTwo(102, 9, 201, 9, 203, 5)...), costGraph(102, 4, 203, 5)},
		{"an edge of ours without a link", 1, outLinks(3, 4), topologyWith(toldTwo(102, 9, 201, 9)...), costGraph(103, 4)},
		{"an edge of ours, its link having Out 0", 1, outLinks(2, 0), topologyWith(toldTwo(102, 9, 201, 9)...), nil},
		{"links between edges", 4, outLinks(2, 4, 6, 5), topologyWith(toldTwo(203, 1, 302, 2, 507, 3, 605, 4)...), costGraph(203, 1, 302, 2, 402, 4, 406, 5, 507, 3, 605, 4)},
		{"links ahead of edges", 1, outLinks(8, 4), topologyWith(toldTwo(203, 1)...), costGraph(108, 4, 203, 1)},
		{"links behind edges", 8, outLinks(1, 4), topologyWith(toldTwo(203, 1)...), costGraph(203, 1, 801, 4)},
		{"an edge between links", 1, outLinks(2, 4, 3, 6), topologyWith(toldTwo(203, 1)...), costGraph(102, 4, 103, 6, 203, 1)},
		{"edges until 11, 10, 9 and 0", 1, nil, topologyWith(impl.Tuple{Key: 203, Until: 11, Value: 1}, impl.Tuple{Key: 204, Until: 10, Value: 2}, impl.Tuple{Key: 205, Until: 9, Value: 3}, impl.Tuple{Key: 206, Value: 4}), costGraph(203, 1)},
		{"the least and the greatest Value", 1, nil, topologyWith(toldTwo(203, 1, 807, maxTime)...), costGraph(203, 1, 807, maxTime)},
	} {
		if got, code := impl.GraphOf(c.me, c.links, c.top, 10); !slices.Equal(got, c.want) || code != impl.OK {
			t.Errorf("%s: %v, %d, not %v", c.what, got, code, c.want)
		}
		for me := 1; me <= 8; me++ {
			checkGraphOf(t, me, c.links, c.top, 10)
		}
	}
}

func TestPromise12LinksByStatusAndTime(t *testing.T) {
	for heard := 9; heard <= 12; heard++ {
		for sym := 9; sym <= 12; sym++ {
			for _, out := range []int{0, 1, maxMetric} {
				for _, will := range []int{0, 3, 7} {
					x := impl.Link{Addr: 5, Heard: heard, Sym: sym, In: 256, Out: out, Will: will}
					var want []impl.Tuple
					if heard > 10 && sym > 10 && out > 0 {
						want = costGraph(205, out)
					}
					if got, code := impl.GraphOf(2, []impl.Link{x}, impl.Topology{}, 10); !slices.Equal(got, want) || code != impl.OK {
						t.Errorf("GraphOf with link %v at 10: %v, %d, not %v", x, got, code, want)
					}
					checkGraphOf(t, 5, []impl.Link{x}, plainTopology(), 10)
				}
			}
		}
	}
}

// An edge's own time counts, not that of its source.
func TestPromise12EdgesByTime(t *testing.T) {
	for until := 9; until <= 12; until++ {
		for sourceUntil := 9; sourceUntil <= 12; sourceUntil++ {
			top := impl.Topology{Sources: []impl.Source{{Addr: 5, Until: sourceUntil}}, Edges: []impl.Tuple{{Key: 506, Until: until, Value: 3}}}
			var want []impl.Tuple
			if until > 10 {
				want = costGraph(506, 3)
			}
			if got, code := impl.GraphOf(2, nil, top, 10); !slices.Equal(got, want) || code != impl.OK {
				t.Errorf("GraphOf of %v at 10: %v, %d, not %v", top, got, code, want)
			}
		}
	}
}

func TestPromise12GraphsOfEachOfUs(t *testing.T) {
	all := symLinksOf(1, 2, 3, 4, 5, 6, 7, 8)
	for me := 1; me <= 8; me++ {
		for _, links := range [][]impl.Link{nil, all, plainLinks(), outLinks(me, 9), linksBut(all, me)} {
			for _, top := range rightTopologies() {
				for _, now := range []int{-1, 9, 10, 19, 20, 25} {
					checkGraphOf(t, me, links, top, now)
				}
			}
		}
	}
}

// The most edges that there can be: all seven of ours, and all but those that begin or end at us.
func TestPromise12TheMostEdgesOfAGraph(t *testing.T) {
	for me := 1; me <= 8; me++ {
		got, code := impl.GraphOf(me, symLinksOf(1, 2, 3, 4, 5, 6, 7, 8), fullTopology(), 0)
		if len(got) != 7+42 || code != impl.OK {
			t.Errorf("GraphOf of %d with all links and edges: %d of them, %d", me, len(got), code)
		}
	}
}

func TestPromise12LinksOfGraphs(t *testing.T) {
	for i, links := range rightLinks() {
		for _, now := range []int{-1, 0, 9, 20, maxTime - 1, maxTime} {
			checkGraphOf(t, 1+i%8, links, plainTopology(), now)
			checkGraphOf(t, 1+i/8%8, links, edgeTopology(), now)
		}
	}
}

func TestPromise12DrawnLinksAndTopologies(t *testing.T) {
	d := &draws{125}
	for range 3000 {
		checkGraphOf(t, 1+d.next(8), d.links(), d.topology(), d.next(42)-1)
	}
}
