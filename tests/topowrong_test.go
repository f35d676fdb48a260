package tests

import (
	"math"
	"slices"
	"testing"

	"loop.example/g00419/impl"
)

// briefTopology tells the beginning of lists that may be long.
func briefTopology(t impl.Topology) string {
	return "sources " + brief(t.Sources) + ", edges " + brief(t.Edges)
}

// risingSources has n sources whose addresses rise, also beyond the greatest address.
func risingSources(n int) []impl.Source {
	list := make([]impl.Source, n)
	for i := range list {
		list[i] = impl.Source{Addr: i + 1, Ansn: 7, Until: 20}
	}
	return list
}

func sourcesAt(addrs ...int) []impl.Source {
	var list []impl.Source
	for _, addr := range addrs {
		list = append(list, impl.Source{Addr: addr, Ansn: 7, Until: 20})
	}
	return list
}

// wrongSources has sources with one fault each.
func wrongSources() []impl.Source {
	var list []impl.Source
	for _, n := range wildLinkInts {
		if n < 1 || n > 8 {
			list = append(list, impl.Source{Addr: n, Ansn: 7, Until: 20})
		}
		if n < 0 || n > 65535 {
			list = append(list, impl.Source{Addr: 4, Ansn: n, Until: 20})
		}
		if n < 0 || n > maxTime {
			list = append(list, impl.Source{Addr: 4, Ansn: 7, Until: n})
		}
	}
	return list
}

func wrongSourceLists() [][]impl.Source {
	lists := [][]impl.Source{{{}}, {{Ansn: 7, Until: 20}}}
	for _, addrs := range [][]int{{1, 1}, {8, 8}, {2, 1}, {8, 1}, {1, 3, 2}, {1, 3, 3}, {3, 3, 4}, {3, 2, 4}, {1, 2, 3, 4, 5, 6, 8, 7}, {0, 1}, {8, 9}} {
		lists = append(lists, sourcesAt(addrs...))
	}
	for _, n := range []int{9, 10, 255, 256, impl.MaxList, impl.MaxList + 1, 70000} {
		lists = append(lists, risingSources(n), slices.Repeat(sourcesAt(1), n))
	}
	for _, x := range wrongSources() {
		ahead, behind := sourcesAt(1)[0], sourcesAt(8)[0]
		lists = append(lists, []impl.Source{x}, []impl.Source{ahead, x}, []impl.Source{x, behind}, []impl.Source{ahead, x, behind})
	}
	return lists
}

// strayTopologies have an edge whose source is not there, all else being right.
func strayTopologies() []impl.Topology {
	list := []impl.Topology{{Edges: plainTopology().Edges}, {Edges: fullTwo()}}
	for addr := 1; addr <= 8; addr++ {
		sources := slices.DeleteFunc(risingSources(8), func(x impl.Source) bool { return x.Addr == addr })
		list = append(list, impl.Topology{Sources: sources, Edges: fullTwo()})
		for _, e := range fullTwo() {
			if e.Key/100 == addr {
				edge := []impl.Tuple{e}
				list = append(list, impl.Topology{Edges: edge}, impl.Topology{Sources: sources, Edges: edge}, impl.Topology{Sources: sourcesAt(e.Key % 100), Edges: edge})
			}
		}
	}
	return list
}

func wrongTopologies() []impl.Topology {
	list := strayTopologies()
	for _, sources := range wrongSourceLists() {
		list = append(list, impl.Topology{Sources: sources}, impl.Topology{Sources: sources, Edges: []impl.Tuple{{Key: 102, Until: 9, Value: 1}}})
	}
	for _, edges := range append(wrongTwos(), longTwos()...) {
		list = append(list, impl.Topology{Sources: risingSources(8), Edges: edges}, impl.Topology{Sources: sourcesAt(1, 3, 8), Edges: edges})
	}
	for i, x := range fullTwo() {
		edges := fullTwo()
		edges[i].Value = 0
		list = append(list, impl.Topology{Sources: risingSources(8), Edges: edges})
		list = append(list, impl.Topology{Sources: risingSources(8), Edges: []impl.Tuple{{Key: x.Key, Until: 9}}})
	}
	return list
}

func checkHearTcCode(t *testing.T, top impl.Topology, from, now int, x impl.Tc, want int) {
	t.Helper()
	mustNotPanic(t, "HearTc", func() {
		var wantTop impl.Topology
		if want == impl.ErrStale {
			wantTop = top
		}
		if got, code := impl.HearTc(top, from, now, x); !sameTopology(got, wantTop) || code != want {
			t.Errorf("HearTc(%s, %d, %d, %d edges of %.200v) = %s, %d, not code %d", briefTopology(top), from, now, len(x.List), x, briefTopology(got), code, want)
		}
	})
}

// checkWrongTopology asks that each call answers ErrBad, whatever else is wrong, and else zero.
func checkWrongTopology(t *testing.T, top impl.Topology) {
	t.Helper()
	mustNotPanic(t, "a call on a topology that is not right", func() {
		if impl.TopologyOK(top) {
			t.Errorf("TopologyOK(%s)", briefTopology(top))
		}
		for _, n := range []int{0, 1, 3, 8, 9, -1, math.MinInt, math.MaxInt} {
			if got, code := impl.TopologyExpire(top, n); !sameTopology(got, impl.Topology{}) || code != impl.ErrBad {
				t.Errorf("TopologyExpire(%s, %d) = %s, %d", briefTopology(top), n, briefTopology(got), code)
			}
			if got, code := impl.EdgesFrom(top, n); len(got) != 0 || code != impl.ErrBad {
				t.Errorf("EdgesFrom(%s, %d) = %v, %d", briefTopology(top), n, got, code)
			}
			if got, code := impl.SourceOf(top, n); got != (impl.Source{}) || code != impl.ErrBad {
				t.Errorf("SourceOf(%s, %d) = %v, %d", briefTopology(top), n, got, code)
			}
			checkHearTcCode(t, top, n, n, plainTc(), impl.ErrBad)
			checkHearTcCode(t, top, 3, n, impl.Tc{Ansn: 6, Valid: 15}, impl.ErrBad)
		}
		if got, code := impl.TopologyText(top); len(got) != 0 || code != impl.ErrBad {
			t.Errorf("TopologyText(%s) = %s, %d", briefTopology(top), brief(got), code)
		}
	})
	checkHearTcCode(t, top, 4, 10, plainTc(), impl.ErrBad)
	checkHearTcCode(t, top, 4, 10, impl.Tc{}, impl.ErrBad)
	checkHearTcCode(t, top, 9, -1, tcOf(risingEdges(impl.MaxList+1)...), impl.ErrBad)
}

// Lists within a topology are bounded by chapter 10 alone: those above MaxList are bad, not long.
func TestPromise10WrongTopologiesAreBad(t *testing.T) {
	for _, top := range wrongTopologies() {
		checkWrongTopology(t, top)
	}
}

func TestPromise10EachKeyOfAnEdge(t *testing.T) {
	for key := 0; key <= maxKey; key++ {
		from, to := key/100, key%100
		want := 1 <= from && from <= 8 && 1 <= to && to <= 8 && from != to
		top := impl.Topology{Sources: risingSources(8), Edges: []impl.Tuple{{Key: key, Until: 9, Value: 1}}}
		if got := impl.TopologyOK(top); got != want {
			t.Fatalf("TopologyOK with key %d: %v", key, got)
		}
	}
}

func TestPromise10EachBoundOfATopology(t *testing.T) {
	for _, n := range wildLinkInts {
		for _, c := range []struct {
			what      string
			low, high int
			top       impl.Topology
		}{
			{"Addr", 1, 8, impl.Topology{Sources: []impl.Source{{Addr: n, Ansn: 7, Until: 20}}}},
			{"Ansn", 0, 65535, impl.Topology{Sources: []impl.Source{{Addr: 3, Ansn: n, Until: 20}}}},
			{"Until", 0, maxTime, impl.Topology{Sources: []impl.Source{{Addr: 3, Ansn: 7, Until: n}}}},
			{"an edge's Until", 0, maxTime, impl.Topology{Sources: sourcesAt(3), Edges: []impl.Tuple{{Key: 304, Until: n, Value: 1}}}},
			{"an edge's Value", 1, maxTime, impl.Topology{Sources: sourcesAt(3), Edges: []impl.Tuple{{Key: 304, Until: 20, Value: n}}}},
		} {
			if got := impl.TopologyOK(c.top); got != (c.low <= n && n <= c.high) {
				t.Errorf("TopologyOK with %s %d: %v", c.what, n, got)
			}
		}
	}
}

func TestPromise10WrongAdvertisementsAreBad(t *testing.T) {
	for _, x := range wrongTcs() {
		for _, top := range []impl.Topology{{}, plainTopology(), fullTopology()} {
			for from := -1; from <= 9; from++ {
				checkHearTcCode(t, top, from, 10, x, impl.ErrBad)
				checkHearTcCode(t, top, from, -1, x, impl.ErrBad)
				checkHearTcCode(t, top, from, maxNow+1, x, impl.ErrBad)
			}
		}
	}
}

func TestPromise10SourcesThatAreNoneAreBadAheadOfRange(t *testing.T) {
	for _, n := range notAddresses() {
		for _, now := range []int{10, 0, maxNow, -1, maxNow + 1, math.MinInt, math.MaxInt} {
			for _, top := range []impl.Topology{{}, plainTopology(), fullTopology()} {
				checkHearTcCode(t, top, n, now, plainTc(), impl.ErrBad)
				checkHearTcCode(t, top, n, now, impl.Tc{Valid: 15}, impl.ErrBad)
			}
		}
	}
}

// ErrRange is named ahead of ErrStale: nothing is answered as it was then.
func TestPromise10TimesOutsideTheirBoundsAheadOfStale(t *testing.T) {
	newer, older := impl.Tc{Ansn: 8, Valid: 15, List: edgesTo(1, 3)}, impl.Tc{Ansn: 6, Valid: 15, List: edgesTo(1, 3)}
	for _, now := range wildLinkInts {
		if now < 0 || now > maxNow {
			for _, from := range []int{1, 3, 8} {
				checkHearTcCode(t, impl.Topology{}, from, now, newer, impl.ErrRange)
				checkHearTcCode(t, plainTopology(), from, now, newer, impl.ErrRange)
				checkHearTcCode(t, plainTopology(), from, now, older, impl.ErrRange)
			}
			continue
		}
		checkHearTc(t, impl.Topology{}, 3, now, older)
		checkHearTc(t, plainTopology(), 3, now, newer)
		checkHearTcCode(t, plainTopology(), 3, now, older, impl.ErrStale)
	}
}

func TestPromise10StaleOnesChangeNothing(t *testing.T) {
	for _, x := range edgeTcs() {
		for from := 1; from <= 8; from++ {
			for _, top := range []impl.Topology{plainTopology(), fullTopology()} {
				for i := range top.Sources {
					top.Sources[i].Ansn = (x.Ansn + 1 + 1000*i) % 65536
				}
				if _, there := sourceAt(top, from); there {
					checkHearTcCode(t, top, from, 10, x, impl.ErrStale)
				}
			}
		}
	}
}

// At a time below 0 nothing is over.
func TestPromise10AnyIntegerAsNow(t *testing.T) {
	for _, now := range wildLinkInts {
		for _, top := range []impl.Topology{{}, plainTopology(), fullTopology(), edgeTopology(), {Sources: []impl.Source{{Addr: 1}}}} {
			mustNotPanic(t, "TopologyExpire with any now", func() { checkTopologyExpire(t, top, now) })
		}
	}
	for _, now := range []int{-1, math.MinInt} {
		if got, code := impl.TopologyExpire(edgeTopology(), now); !sameTopology(got, edgeTopology()) || code != impl.OK {
			t.Errorf("TopologyExpire at %d = %v, %d", now, got, code)
		}
	}
	for _, now := range []int{maxTime, math.MaxInt} {
		if got, code := impl.TopologyExpire(edgeTopology(), now); !sameTopology(got, impl.Topology{}) || code != impl.OK {
			t.Errorf("TopologyExpire at %d = %v, %d", now, got, code)
		}
	}
}

// EdgesFrom and SourceOf name no fault of an address: from one that is none there is no edge, and it is no source.
func TestPromise10AnyIntegerAsSource(t *testing.T) {
	for _, n := range notAddresses() {
		mustNotPanic(t, "a call with any address", func() {
			for _, top := range []impl.Topology{{}, plainTopology(), fullTopology(), edgeTopology()} {
				if got, code := impl.EdgesFrom(top, n); len(got) != 0 || code != impl.OK {
					t.Errorf("EdgesFrom(%v, %d) = %v, %d", top, n, got, code)
				}
				if got, code := impl.SourceOf(top, n); got != (impl.Source{}) || code != impl.ErrNone {
					t.Errorf("SourceOf(%v, %d) = %v, %d", top, n, got, code)
				}
			}
		})
	}
}
