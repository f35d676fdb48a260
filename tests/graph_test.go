package tests

import (
	"slices"
	"testing"

	"loop.example/g00419/impl"
)

// fullGraph has all edges that there can be, each with this cost.
func fullGraph(cost int) []impl.Tuple {
	list := fullTwo()
	for i := range list {
		list[i].Value = cost
	}
	return list
}

// edgeGraph has the least and the greatest keys, times and costs.
func edgeGraph() []impl.Tuple {
	return []impl.Tuple{{Key: 102, Value: 1}, {Key: 108, Until: maxTime, Value: maxTime}, {Key: 801, Value: maxTime}, {Key: 807, Until: maxTime, Value: 1}}
}

// lineGraph has an edge from each address to the next one.
func lineGraph(cost int, addrs ...int) []impl.Tuple {
	var list []impl.Tuple
	for i := 1; i < len(addrs); i++ {
		list = append(list, impl.Tuple{Key: 100*addrs[i-1] + addrs[i], Value: cost})
	}
	return inOrder(list)
}

// routesAs has a route of each To, Next, Cost and Hops.
func routesAs(fours [][4]int) []impl.Route {
	var list []impl.Route
	for _, x := range fours {
		list = append(list, impl.Route{To: x[0], Next: x[1], Cost: x[2], Hops: x[3]})
	}
	return list
}

// inOrder sorts edges by their keys.
func inOrder(list []impl.Tuple) []impl.Tuple {
	slices.SortFunc(list, func(x, y impl.Tuple) int { return x.Key - y.Key })
	return list
}

// closeGraph has few different costs, so that ties are frequent.
func (d *draws) closeGraph() []impl.Tuple {
	list, most := d.two(), 1+d.next(4)
	for i := range list {
		list[i].Until, list[i].Value = d.next(40), 1+d.next(most)
	}
	return list
}

// wideGraph has any costs.
func (d *draws) wideGraph() []impl.Tuple {
	list := d.two()
	for i := range list {
		list[i].Value = 1 + d.next(maxTime)
	}
	return list
}

// wantBetter is chapter 12's rule of which of two ways to an address counts.
func wantBetter(x, y impl.Route) bool {
	if x.Cost != y.Cost {
		return x.Cost < y.Cost
	}
	if x.Hops != y.Hops {
		return x.Hops < y.Hops
	}
	return x.Next < y.Next
}

// wantWays goes all ways that come to no address twice, and keeps the best one to each address.
func wantWays(g []impl.Tuple, from int) [9]impl.Route {
	var costs [9][9]int
	for _, x := range g {
		costs[x.Key/100][x.Key%100] = x.Value
	}
	var best [9]impl.Route
	var been [9]bool
	var goOn func(at impl.Route)
	goOn = func(at impl.Route) {
		been[at.To] = true
		for to := 1; to <= 8; to++ {
			if been[to] || costs[at.To][to] == 0 {
				continue
			}
			way := impl.Route{To: to, Next: at.Next, Cost: at.Cost + costs[at.To][to], Hops: at.Hops + 1}
			if way.Hops == 1 {
				way.Next = to
			}
			if best[to].To == 0 || wantBetter(way, best[to]) {
				best[to] = way
			}
			goOn(way)
		}
		been[at.To] = false
	}
	goOn(impl.Route{To: from})
	return best
}

// checkTheorem holds a graph's distances and routes against its edges, one by one.
func checkTheorem(t *testing.T, g []impl.Tuple, from int) {
	t.Helper()
	costs, _ := impl.Distances(g, from)
	routes, _ := impl.RoutesOf(g, from)
	if len(costs) != 8 || costs[from-1] != 0 {
		t.Fatalf("Distances(%v, %d) = %v", g, from, costs)
	}
	var at [9]impl.Route
	at[from].To = from
	for _, x := range routes {
		at[x.To] = x
	}
	var ends [9]bool
	for _, x := range g {
		u, v := x.Key/100, x.Key%100
		if costs[u-1] < 0 {
			continue
		}
		if costs[v-1] < 0 || costs[v-1] > costs[u-1]+x.Value {
			t.Fatalf("edge %d of %v is a shorter way from %d: %v", x.Key, g, from, costs)
		}
		ends[v] = ends[v] || costs[v-1] == costs[u-1]+x.Value &&
			at[v] == impl.Route{To: v, Next: at[v].Next, Cost: at[u].Cost + x.Value, Hops: at[u].Hops + 1} &&
			(u == from && at[v].Next == v || u != from && at[v].Next == at[u].Next)
	}
	for v := 1; v <= 8; v++ {
		if v != from && (costs[v-1] > 0) != ends[v] {
			t.Fatalf("the way from %d to %d in %v ends with no edge of its own: %v, %v", from, v, g, costs, routes)
		}
	}
}

// checkWays holds all that is asked of a right graph against all ways that there are in it.
func checkWays(t *testing.T, g []impl.Tuple, from int) {
	t.Helper()
	best := wantWays(g, from)
	var routes []impl.Route
	var costs []int
	for to := 1; to <= 8; to++ {
		switch {
		case to == from:
			costs = append(costs, 0)
		case best[to].To == 0:
			costs = append(costs, -1)
		default:
			costs = append(costs, best[to].Cost)
			routes = append(routes, best[to])
		}
	}
	if !impl.GraphOK(g) {
		t.Fatalf("GraphOK(%v) = false", g)
	}
	if got, code := impl.Distances(g, from); !slices.Equal(got, costs) || code != impl.OK {
		t.Fatalf("Distances(%v, %d) = %v, %d, not %v", g, from, got, code, costs)
	}
	if got, code := impl.RoutesOf(g, from); !slices.Equal(got, routes) || code != impl.OK {
		t.Fatalf("RoutesOf(%v, %d) = %v, %d, not %v", g, from, got, code, routes)
	}
	if got, code := impl.RoutesText(routes); len(got) != len(routes) || code != impl.OK {
		t.Fatalf("the routes of %v from %d are not right: %d", g, from, code)
	}
	checkTheorem(t, g, from)
}

func checkAllWays(t *testing.T, g []impl.Tuple) {
	t.Helper()
	for from := 1; from <= 8; from++ {
		checkWays(t, g, from)
	}
}

func TestPromise12WaysByHand(t *testing.T) {
	ring := lineGraph(2, 1, 2, 3, 4, 5, 1)
	parts := toldTwo(102, 1, 203, 1, 405, 1, 506, 1)
	for _, c := range []struct {
		what  string
		g     []impl.Tuple
		from  int
		costs []int
		want  [][4]int
	}{
		{"no edge", nil, 1, []int{0, -1, -1, -1, -1, -1, -1, -1}, nil},
		{"one edge, from its beginning", toldTwo(304, 5), 3, []int{-1, -1, 0, 5, -1, -1, -1, -1}, [][4]int{{4, 4, 5, 1}}},
		{"one edge, from its end: it has one direction", toldTwo(304, 5), 4, []int{-1, -1, -1, 0, -1, -1, -1, -1}, nil},
		{"one edge, from elsewhere", toldTwo(304, 5), 8, []int{-1, -1, -1, -1, -1, -1, -1, 0}, nil},
		{"a line", lineGraph(3, 1, 2, 3, 4), 1, []int{0, 3, 6, 9, -1, -1, -1, -1},
			[][4]int{{2, 2, 3, 1}, {3, 2, 6, 2}, {4, 2, 9, 3}}},
		{"a line, from its middle", lineGraph(3, 4, 3, 2, 1), 3, []int{6, 3, 0, -1, -1, -1, -1, -1},
			[][4]int{{1, 2, 6, 2}, {2, 2, 3, 1}}},
		{"a line of all, the other way round", lineGraph(1, 8, 7, 6, 5, 4, 3, 2, 1), 8, []int{7, 6, 5, 4, 3, 2, 1, 0},
			[][4]int{{1, 7, 7, 7}, {2, 7, 6, 6}, {3, 7, 5, 5}, {4, 7, 4, 4}, {5, 7, 3, 3}, {6, 7, 2, 2}, {7, 7, 1, 1}}},
		{"a ring", ring, 3, []int{6, 8, 0, 2, 4, -1, -1, -1}, [][4]int{{1, 4, 6, 3}, {2, 4, 8, 4}, {4, 4, 2, 1}, {5, 4, 4, 2}}},
		{"two parts, from one", parts, 1, []int{0, 1, 2, -1, -1, -1, -1, -1}, [][4]int{{2, 2, 1, 1}, {3, 2, 2, 2}}},
		{"two parts, from the other", parts, 4, []int{-1, -1, -1, 0, 1, 2, -1, -1}, [][4]int{{5, 5, 1, 1}, {6, 5, 2, 2}}},
		{"one direction dearer than the other", toldTwo(102, 1, 201, 9), 2, []int{9, 0, -1, -1, -1, -1, -1, -1}, [][4]int{{1, 1, 9, 1}}},
		{"all edges", fullGraph(4), 6, []int{4, 4, 4, 4, 4, 0, 4, 4},
			[][4]int{{1, 1, 4, 1}, {2, 2, 4, 1}, {3, 3, 4, 1}, {4, 4, 4, 1}, {5, 5, 4, 1}, {7, 7, 4, 1}, {8, 8, 4, 1}}},
		{"a dear edge against a long way", toldTwo(104, 7, 102, 2, 203, 2, 304, 2), 1, []int{0, 2, 4, 6, -1, -1, -1, -1}, [][4]int{{2, 2, 2, 1}, {3, 2, 4, 2}, {4, 2, 6, 3}}},
		{"edges that end at where it begins", toldTwo(102, 1, 201, 1, 301, 1, 203, 1), 1, []int{0, 1, 2, -1, -1, -1, -1, -1}, [][4]int{{2, 2, 1, 1}, {3, 2, 2, 2}}},
	} {
		g := inOrder(c.g)
		if got, code := impl.Distances(g, c.from); !slices.Equal(got, c.costs) || code != impl.OK {
			t.Errorf("%s: Distances %v, %d, not %v", c.what, got, code, c.costs)
		}
		if got, code := impl.RoutesOf(g, c.from); !slices.Equal(got, routesAs(c.want)) || code != impl.OK {
			t.Errorf("%s: RoutesOf %v, %d, not %v", c.what, got, code, c.want)
		}
		checkAllWays(t, g)
	}
}

func TestPromise12TiesByHand(t *testing.T) {
	for _, c := range []struct {
		what string
		g    []impl.Tuple
		want impl.Route
	}{
		{"one cost, one hop against two", toldTwo(108, 5, 102, 2, 208, 3), impl.Route{To: 8, Next: 8, Cost: 5, Hops: 1}},
		{"one cost, two hops by 7 against three by 2", toldTwo(102, 1, 203, 1, 308, 2, 107, 2, 708, 2), impl.Route{To: 8, Next: 7, Cost: 4, Hops: 2}},
		{"one cost, three hops by 7 against four by 2", toldTwo(102, 1, 203, 1, 304, 1, 408, 3, 107, 2, 706, 2, 608, 2), impl.Route{To: 8, Next: 7, Cost: 6, Hops: 3}},
		{"less cost with more hops", toldTwo(108, 4, 102, 1, 203, 1, 308, 1), impl.Route{To: 8, Next: 2, Cost: 3, Hops: 3}},
		{"less cost by the higher first hop", toldTwo(102, 1, 107, 1, 208, 3, 708, 2), impl.Route{To: 8, Next: 7, Cost: 3, Hops: 2}},
		{"one cost and as many hops", toldTwo(102, 1, 107, 2, 208, 3, 708, 2), impl.Route{To: 8, Next: 2, Cost: 4, Hops: 2}},
		{"the same, the lower first hop being the dearer one", toldTwo(102, 3, 107, 1, 208, 1, 708, 3), impl.Route{To: 8, Next: 2, Cost: 4, Hops: 2}},
		{"the lower first hop, with the higher last one", toldTwo(102, 1, 103, 1, 207, 1, 304, 1, 408, 1, 708, 1), impl.Route{To: 8, Next: 2, Cost: 3, Hops: 3}},
		{"the lower first hop, with the lower last one", toldTwo(102, 1, 103, 1, 204, 1, 307, 1, 408, 1, 708, 1), impl.Route{To: 8, Next: 2, Cost: 3, Hops: 3}},
		{"a tie on the way", toldTwo(106, 1, 103, 1, 304, 1, 604, 1, 408, 1), impl.Route{To: 8, Next: 3, Cost: 3, Hops: 3}},
		{"a tie on the way, of other hops", toldTwo(106, 2, 103, 1, 302, 1, 204, 1, 604, 1, 408, 1), impl.Route{To: 8, Next: 6, Cost: 4, Hops: 3}},
		{"three alike", toldTwo(103, 1, 105, 1, 107, 1, 308, 1, 508, 1, 708, 1), impl.Route{To: 8, Next: 3, Cost: 2, Hops: 2}},
		{"three alike, with other costs of their edges", toldTwo(103, 5, 105, 4, 107, 1, 308, 1, 508, 2, 708, 5), impl.Route{To: 8, Next: 3, Cost: 6, Hops: 2}},
		{"six alike", toldTwo(102, 6, 103, 5, 104, 4, 105, 3, 106, 2, 107, 1, 208, 1, 308, 2, 408, 3, 508, 4, 608, 5, 708, 6), impl.Route{To: 8, Next: 2, Cost: 7, Hops: 2}},
		{"six alike and a direct one", toldTwo(102, 6, 103, 5, 104, 4, 105, 3, 106, 2, 107, 1, 108, 7, 208, 1, 308, 2, 408, 3, 508, 4, 608, 5, 708, 6), impl.Route{To: 8, Next: 8, Cost: 7, Hops: 1}},
		{"ties that meet twice", toldTwo(103, 1, 102, 1, 204, 1, 304, 1, 405, 1, 406, 1, 507, 1, 607, 1, 708, 1), impl.Route{To: 8, Next: 2, Cost: 5, Hops: 5}},
		{"great costs that differ by one", toldTwo(102, maxTime, 208, maxTime-1, 103, maxTime-1, 308, maxTime-1), impl.Route{To: 8, Next: 3, Cost: 2*maxTime - 2, Hops: 2}},
		{"great costs that are alike", toldTwo(102, maxTime, 208, maxTime-1, 103, maxTime-1, 308, maxTime), impl.Route{To: 8, Next: 2, Cost: 2*maxTime - 1, Hops: 2}},
	} {
		g := inOrder(c.g)
		routes, code := impl.RoutesOf(g, 1)
		if got, found := impl.RouteTo(routes, 8); got != c.want || code != impl.OK || found != impl.OK {
			t.Errorf("%s: %v, %d, %d, not %v", c.what, got, code, found, c.want)
		}
		checkAllWays(t, g)
	}
}

func TestPromise12EachEdgeAlone(t *testing.T) {
	for _, x := range fullTwo() {
		for _, cost := range []int{1, 2, maxTime - 1, maxTime} {
			x.Value = cost
			checkAllWays(t, []impl.Tuple{x})
		}
	}
}

// All graphs of three addresses with four choices of each edge.
func TestPromise12EachGraphOfThree(t *testing.T) {
	addrs := []int{2, 5, 8}
	for mix := range 1 << 12 {
		var g []impl.Tuple
		for _, from := range addrs {
			for _, to := range addrs {
				if from == to {
					continue
				}
				if mix%4 > 0 {
					g = append(g, impl.Tuple{Key: 100*from + to, Value: mix % 4})
				}
				mix /= 4
			}
		}
		for _, from := range addrs {
			checkWays(t, g, from)
		}
	}
}

// All graphs of four addresses with three choices of each edge that does not end where the ways begin.
func TestPromise12EachGraphOfFour(t *testing.T) {
	addrs := []int{1, 3, 6, 7}
	for _, start := range addrs {
		for mix := range 3 * 3 * 3 * 3 * 3 * 3 * 3 * 3 * 3 {
			var g []impl.Tuple
			for _, from := range addrs {
				for _, to := range addrs {
					if from == to || to == start {
						continue
					}
					if mix%3 > 0 {
						g = append(g, impl.Tuple{Key: 100*from + to, Value: mix % 3})
					}
					mix /= 3
				}
			}
			checkWays(t, g, start)
		}
	}
}

func TestPromise12RingsAndLines(t *testing.T) {
	orders := [][]int{{1, 2, 3, 4, 5, 6, 7, 8}, {8, 7, 6, 5, 4, 3, 2, 1}, {1, 8, 2, 7, 3, 6, 4, 5}, {4, 1, 7, 2, 8, 3, 6, 5}, {5, 8}, {3, 1, 2}}
	for _, addrs := range orders {
		for _, cost := range []int{1, 7, maxTime} {
			line := lineGraph(cost, addrs...)
			checkAllWays(t, line)
			if got, code := impl.Distances(line, addrs[0]); code != impl.OK || got[addrs[len(addrs)-1]-1] != cost*(len(addrs)-1) {
				t.Errorf("a line %v of cost %d: %v, %d", addrs, cost, got, code)
			}
			if len(addrs) > 2 {
				checkAllWays(t, lineGraph(cost, append(slices.Clone(addrs), addrs[0])...))
			}
			back := slices.Clone(addrs)
			slices.Reverse(back)
			both := inOrder(append(line, lineGraph(cost, back...)...))
			checkAllWays(t, both)
		}
	}
}

// The most hops and the greatest cost that a way can have: seven edges of the greatest cost.
func TestPromise12CostsAboveWhatAnEdgeMayCost(t *testing.T) {
	routes, code := impl.RoutesOf(lineGraph(maxTime, 8, 1, 7, 2, 6, 3, 5, 4), 8)
	if x, found := impl.RouteTo(routes, 4); code != impl.OK || found != impl.OK || x != (impl.Route{To: 4, Next: 1, Cost: 7 * maxTime, Hops: 7}) {
		t.Error("seven edges of the greatest cost:", routes, code)
	}
	if len(routes) != 7 {
		t.Error("seven edges of the greatest cost:", routes)
	}
}

func TestPromise12AllEdges(t *testing.T) {
	d := &draws{121}
	for _, cost := range []int{1, 2, maxTime} {
		checkAllWays(t, fullGraph(cost))
	}
	checkAllWays(t, fullTwo())
	for i := range 12 {
		g := fullGraph(1)
		for j := range g {
			g[j].Value = 1 + d.next(2+i)
		}
		checkAllWays(t, g)
	}
}

func TestPromise12EdgesOfGraphs(t *testing.T) {
	for _, g := range [][]impl.Tuple{{}, edgeGraph(), fullGraph(1)[1:], fullGraph(maxTime)[:mostTwo-1]} {
		checkAllWays(t, g)
	}
}

// An edge's time says nothing of what it costs: GraphOf has asked for it already.
func TestPromise12TimesOfEdgesDoNotCount(t *testing.T) {
	d := &draws{122}
	for range 200 {
		g := d.closeGraph()
		want, _ := impl.RoutesOf(g, 3)
		for _, until := range []int{0, 1, maxTime} {
			for i := range g {
				g[i].Until = until
			}
			if got, code := impl.RoutesOf(g, 3); !slices.Equal(got, want) || code != impl.OK {
				t.Fatalf("RoutesOf(%v, 3) = %v, %d, not %v", g, got, code, want)
			}
			checkTheorem(t, g, 3)
		}
	}
}

func TestPromise12DrawnGraphs(t *testing.T) {
	d := &draws{123}
	for range 1500 {
		checkWays(t, d.closeGraph(), 1+d.next(8))
		checkWays(t, d.wideGraph(), 1+d.next(8))
	}
}

// What is told of ways does not hang on what addresses are called, but for the lowest first hop of those that are alike.
func TestPromise12OtherNamesOfAddresses(t *testing.T) {
	d := &draws{124}
	for range 300 {
		g, from := d.closeGraph(), 1+d.next(8)
		names := []int{0, 1, 2, 3, 4, 5, 6, 7, 8}
		for i := 8; i > 1; i-- {
			j := 1 + d.next(i)
			names[i], names[j] = names[j], names[i]
		}
		var other []impl.Tuple
		for _, x := range g {
			other = append(other, impl.Tuple{Key: 100*names[x.Key/100] + names[x.Key%100], Value: x.Value})
		}
		inOrder(other)
		costs, _ := impl.Distances(g, from)
		otherCosts, code := impl.Distances(other, names[from])
		for addr := 1; addr <= 8; addr++ {
			if code != impl.OK || costs[addr-1] != otherCosts[names[addr]-1] {
				t.Fatalf("%v from %d: %v; by other names %v: %v, %d", g, from, costs, other, otherCosts, code)
			}
		}
		checkWays(t, other, names[from])
	}
}
