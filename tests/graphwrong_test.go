package tests

import (
	"math"
	"slices"
	"testing"

	"loop.example/g00419/impl"
)

// someInts are addresses and integers that are none.
var someInts = []int{1, 3, 8, 0, 9, -1, math.MinInt, math.MaxInt}

// wrongGraphs has graphs with a fault of a key, of their order, of a tuple, or with an edge that costs nothing.
func wrongGraphs() [][]impl.Tuple {
	lists := wrongTwos()
	for i, x := range fullGraph(1) {
		free := fullGraph(1)
		free[i].Value = 0
		lists = append(lists, free, []impl.Tuple{{Key: x.Key}}, []impl.Tuple{{Key: x.Key, Until: maxTime}})
	}
	for _, keys := range [][]int{{203, 203}, {203, 102}, {102, 305, 304}, {305, 304, 807}, {102, 102, 203}, {708, 807, 806}} {
		lists = append(lists, keysTwo(keys...))
	}
	for _, key := range otherKeys() {
		x := impl.Tuple{Key: key, Value: 1}
		lists = append(lists, []impl.Tuple{x}, inOrder([]impl.Tuple{{Key: 102, Value: 1}, x}), inOrder([]impl.Tuple{x, {Key: 807, Value: 1}}))
	}
	return append(lists, append(fullGraph(1), fullGraph(1)...), slices.Repeat(keysTwo(304), maxSet+1), slices.Repeat(keysTwo(304), impl.MaxList))
}

func longGraphs() [][]impl.Tuple {
	return append(longTwos(), slices.Repeat(fullGraph(1), 74), slices.Repeat(keysTwo(102), impl.MaxList+1))
}

// checkGraphCode asks that both calls on a graph answer this code, and else zero.
func checkGraphCode(t *testing.T, g []impl.Tuple, from, want int) {
	t.Helper()
	mustNotPanic(t, "Distances or RoutesOf", func() {
		if got, code := impl.Distances(g, from); len(got) != 0 || code != want {
			t.Errorf("Distances(%s, %d) = %v, %d, not code %d", brief(g), from, got, code, want)
		}
		if got, code := impl.RoutesOf(g, from); len(got) != 0 || code != want {
			t.Errorf("RoutesOf(%s, %d) = %v, %d, not code %d", brief(g), from, got, code, want)
		}
	})
}

func checkGraphOfCode(t *testing.T, me int, links []impl.Link, top impl.Topology, now, want int) {
	t.Helper()
	mustNotPanic(t, "GraphOf", func() {
		if got, code := impl.GraphOf(me, links, top, now); len(got) != 0 || code != want {
			t.Errorf("GraphOf(%d, %s, %s, %d) = %v, %d, not code %d", me, brief(links), briefTopology(top), now, got, code, want)
		}
	})
}

// ErrBad is named ahead of ErrRange, so that it does not hang on from.
func TestPromise12WrongGraphsAreBad(t *testing.T) {
	for _, g := range wrongGraphs() {
		if impl.GraphOK(g) {
			t.Errorf("GraphOK(%s)", brief(g))
		}
		for _, from := range someInts {
			checkGraphCode(t, g, from, impl.ErrBad)
		}
	}
}

func TestPromise12LongGraphsAreLongAheadOfAll(t *testing.T) {
	for _, g := range longGraphs() {
		if impl.GraphOK(g) {
			t.Errorf("GraphOK(%s)", brief(g))
		}
		for _, from := range someInts {
			checkGraphCode(t, g, from, impl.ErrLong)
		}
	}
}

func TestPromise12EachKeyOfAGraph(t *testing.T) {
	for key := 0; key <= maxKey; key++ {
		from, to := key/100, key%100
		want := 1 <= from && from <= 8 && 1 <= to && to <= 8 && from != to
		if got := impl.GraphOK([]impl.Tuple{{Key: key, Until: 9, Value: 1}}); got != want {
			t.Fatalf("GraphOK with key %d: %v", key, got)
		}
	}
}

func TestPromise12EachBoundOfAGraph(t *testing.T) {
	for _, n := range wildLinkInts {
		for _, c := range []struct {
			what      string
			low, high int
			x         impl.Tuple
		}{
			{"Until", 0, maxTime, impl.Tuple{Key: 304, Until: n, Value: 1}},
			{"Value", 1, maxTime, impl.Tuple{Key: 304, Until: 9, Value: n}},
		} {
			want := c.low <= n && n <= c.high
			for _, g := range [][]impl.Tuple{{c.x}, {{Key: 102, Value: 1}, c.x}, {c.x, {Key: 807, Value: 1}}} {
				if got := impl.GraphOK(g); got != want {
					t.Errorf("GraphOK with %s %d: %v", c.what, n, got)
				}
				if !want {
					checkGraphCode(t, g, 3, impl.ErrBad)
				}
			}
		}
	}
}

func TestPromise12FromThatIsNoAddressIsRange(t *testing.T) {
	for _, from := range notAddresses() {
		for _, g := range [][]impl.Tuple{nil, {}, toldTwo(102, 1), edgeGraph(), fullGraph(1), fullTwo()} {
			checkGraphCode(t, g, from, impl.ErrRange)
		}
	}
}

func TestPromise12GraphOfWrongTopologiesIsBad(t *testing.T) {
	for _, top := range wrongTopologies() {
		for _, n := range []int{1, 8, 0, 9, math.MinInt, math.MaxInt} {
			checkGraphOfCode(t, n, nil, top, 10, impl.ErrBad)
			checkGraphOfCode(t, n, plainLinks(), top, n, impl.ErrBad)
			checkGraphOfCode(t, 3, linksOf(2, 1), top, n, impl.ErrBad)
		}
	}
}

func TestPromise12GraphOfWrongLinksIsBad(t *testing.T) {
	for _, links := range wrongLinks() {
		for _, n := range someInts {
			checkGraphOfCode(t, n, links, impl.Topology{}, 10, impl.ErrBad)
			checkGraphOfCode(t, n, links, plainTopology(), n, impl.ErrBad)
		}
	}
}

func TestPromise12MeThatIsNoAddressIsBad(t *testing.T) {
	for _, me := range notAddresses() {
		for _, now := range []int{10, -1, math.MinInt, math.MaxInt} {
			checkGraphOfCode(t, me, nil, impl.Topology{}, now, impl.ErrBad)
			checkGraphOfCode(t, me, symLinksOf(1, 2, 3), plainTopology(), now, impl.ErrBad)
			checkGraphOfCode(t, me, symLinksOf(1, 2, 3, 4, 5, 6, 7, 8), fullTopology(), now, impl.ErrBad)
		}
	}
}

// Links that are too long come ahead of all that is wrong; lists within a topology that are so are bad alone.
func TestPromise12GraphOfLongLinksIsLong(t *testing.T) {
	longTop := impl.Topology{Sources: risingSources(impl.MaxList + 1), Edges: longList(impl.MaxList + 1)}
	for _, links := range longLinks() {
		for _, top := range []impl.Topology{{}, plainTopology(), fullTopology(), strayTopologies()[0], longTop} {
			for _, n := range someInts {
				checkGraphOfCode(t, n, links, top, 10, impl.ErrLong)
				checkGraphOfCode(t, 1, links, top, n, impl.ErrLong)
			}
		}
	}
	for _, links := range [][]impl.Link{nil, plainLinks(), linksOf(2, 1), risingLinks(impl.MaxList)} {
		for _, n := range someInts {
			checkGraphOfCode(t, n, links, longTop, 10, impl.ErrBad)
		}
	}
}

// GraphOf names no fault of now: at a time below 0 nothing is over.
func TestPromise12AnyIntegerAsNow(t *testing.T) {
	edgeLink := []impl.Link{{Addr: 1, In: 1, Out: 1}, {Addr: 8, Heard: maxTime, Sym: maxTime, In: 256, Out: maxMetric, Will: 7}}
	for _, now := range wildLinkInts {
		mustNotPanic(t, "GraphOf with any now", func() {
			for me := 1; me <= 8; me++ {
				checkGraphOf(t, me, edgeLink, edgeTopology(), now)
				checkGraphOf(t, me, plainLinks(), plainTopology(), now)
			}
		})
	}
	for _, now := range []int{-1, math.MinInt} {
		if got, code := impl.GraphOf(3, edgeLink, edgeTopology(), now); len(got) != 6 || code != impl.OK {
			t.Errorf("GraphOf at %d: %v, %d", now, got, code)
		}
	}
	for _, now := range []int{maxTime, math.MaxInt} {
		if got, code := impl.GraphOf(3, edgeLink, edgeTopology(), now); len(got) != 0 || code != impl.OK {
			t.Errorf("GraphOf at %d: %v, %d", now, got, code)
		}
	}
}
