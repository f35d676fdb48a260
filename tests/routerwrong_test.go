package tests

import (
	"math"
	"slices"
	"testing"

	"loop.example/g00419/impl"
)

// wildRouterInts are integers around all bounds of a router's fields, and far outside them.
var wildRouterInts = append([]int{maxTick - 1, maxTick, maxTick + 1, maxErrors - 1, maxErrors, maxErrors + 1, 65534, 6, 10}, wildLinkInts...)

// notTold are integers that no metric that is told may be, but which a link may have as Out.
var notTold = []int{257, 259, 261, 767, 769, 771, 773, 1 << 20, toldMost - 1, toldMost + 1, maxMetric - 1, maxMetric}

func wrongNumberRouters() []impl.Router {
	var list []impl.Router
	for _, base := range []impl.Router{{Addr: 3}, plainRouter(), fullRouter(3)} {
		for _, f := range routerFields {
			for _, n := range wildRouterInts {
				if n < f.low || n > f.high {
					r := clonedRouter(base)
					f.set(&r, n)
					list = append(list, r)
				}
			}
		}
	}
	return list
}

// wrongListRouters have one list that is not right by its own chapter. Lists within a router are bounded by chapters
// alone: those above MaxList are bad, not long.
func wrongListRouters() []impl.Router {
	var list []impl.Router
	for _, x := range append(wrongLinks(), longLinks()...) {
		list = append(list, impl.Router{Addr: 3, Links: x})
	}
	for _, x := range append(wrongTwos(), longTwos()...) {
		list = append(list, impl.Router{Addr: 3, Two: x})
	}
	for _, x := range append(wrongSets(), longSets()...) {
		list = append(list, impl.Router{Addr: 3, Selectors: x}, impl.Router{Addr: 3, Dups: x})
	}
	for _, x := range wrongTopologies() {
		list = append(list, impl.Router{Addr: 3, Topology: x})
	}
	for _, x := range wrongTcs() {
		if !impl.TcOK(tcOf(x.List...)) {
			list = append(list, impl.Router{Addr: 3, Last: x.List})
		}
	}
	return list
}

// ownRouters have their own address in a link, a source or a two-hop neighbor, all else being right.
func ownRouters() []impl.Router {
	var list []impl.Router
	for addr := 1; addr <= 8; addr++ {
		other := 1 + addr%8
		list = append(list,
			impl.Router{Addr: addr, Links: linksOf(addr)},
			impl.Router{Addr: addr, Links: symLinksOf(1, 2, 3, 4, 5, 6, 7, 8)},
			impl.Router{Addr: addr, Topology: loneTopology(addr)},
			impl.Router{Addr: addr, Topology: loneTopology(1, 2, 3, 4, 5, 6, 7, 8)},
			impl.Router{Addr: addr, Topology: fullTopology()},
			impl.Router{Addr: addr, Two: keysTwo(100*addr + other)},
			impl.Router{Addr: addr, Two: keysTwo(100*other + addr)},
			impl.Router{Addr: addr, Two: fullTwo()},
		)
		for _, x := range fullTwo() {
			if x.Key/100 == addr || x.Key%100 == addr {
				r := fullRouter(addr)
				r.Two = wantPut(r.Two, x)
				list = append(list, r)
			}
		}
	}
	return list
}

// wrongOutRouters have a link whose Out may not be told, or is 0 with Sym above 0.
func wrongOutRouters() []impl.Router {
	var list []impl.Router
	for _, n := range notTold {
		for _, sym := range []int{0, 1, 20, maxTime} {
			x := symLink(4)
			x.Sym, x.Out = sym, n
			list = append(list, impl.Router{Addr: 3, Links: []impl.Link{x}}, impl.Router{Addr: 3, Links: []impl.Link{symLink(1), x, symLink(8)}})
		}
	}
	for _, sym := range []int{1, 2, 10, 20, maxTime} {
		for _, now := range []int{0, 10, maxTick} {
			list = append(list,
				impl.Router{Addr: 3, Now: now, Links: []impl.Link{{Addr: 4, Heard: 20, Sym: sym, In: 1}}},
				impl.Router{Addr: 3, Now: now, Links: []impl.Link{{Addr: 4, Sym: sym, In: 1}}},
				impl.Router{Addr: 3, Now: now, Links: []impl.Link{symLink(1), {Addr: 4, Heard: 20, Sym: sym, In: 1}, symLink(8)}},
			)
		}
	}
	return list
}

func wrongRouters() []impl.Router {
	return slices.Concat([]impl.Router{{}}, wrongNumberRouters(), wrongListRouters(), ownRouters(), wrongOutRouters())
}

// briefRouter tells the beginning of lists that may be long.
func briefRouter(r impl.Router) string {
	numbers := []int{r.Addr, r.Will, r.Seq, r.Ansn, r.Now, r.Errors}
	return brief(numbers) + ", links " + brief(r.Links) + ", two " + brief(r.Two) + ", selectors " + brief(r.Selectors) + ", dups " + brief(r.Dups) +
		", " + briefTopology(r.Topology) + ", last " + brief(r.Last)
}

// checkHearRouterCode asks for this code, no bytes, and a router that is zero, or as it was with ErrSelf.
func checkHearRouterCode(t *testing.T, r impl.Router, from, cost int, b []byte, want int) {
	t.Helper()
	mustNotPanic(t, "RouterHear", func() {
		var wantRouter impl.Router
		if want == impl.ErrSelf {
			wantRouter = r
		}
		if got, out, code := impl.RouterHear(r, from, cost, b); !sameRouter(got, wantRouter) || len(out) != 0 || code != want {
			t.Errorf("RouterHear(%s, %d, %d, %.20q) = %s, %.20q, %d, not code %d", briefRouter(r), from, cost, b, briefRouter(got), out, code, want)
		}
	})
}

// checkWrongRouter asks that each call answers ErrBad, whatever else is wrong, and else zero.
func checkWrongRouter(t *testing.T, r impl.Router) {
	t.Helper()
	mustNotPanic(t, "a call on a router that is not right", func() {
		if impl.RouterOK(r) {
			t.Errorf("RouterOK(%s)", briefRouter(r))
		}
		if h, code := impl.HelloNow(r); !sameHello(h, impl.Hello{}) || code != impl.ErrBad {
			t.Errorf("HelloNow(%s) = %v, %d", briefRouter(r), h, code)
		}
		if x, tc, code := impl.TcNow(r); !sameRouter(x, impl.Router{}) || !sameTc(tc, impl.Tc{}) || code != impl.ErrBad {
			t.Errorf("TcNow(%s) = %s, %v, %d", briefRouter(r), briefRouter(x), tc, code)
		}
		if x, b, code := impl.RouterTick(r); !sameRouter(x, impl.Router{}) || len(b) != 0 || code != impl.ErrBad {
			t.Errorf("RouterTick(%s) = %s, %q, %d", briefRouter(r), briefRouter(x), b, code)
		}
		if list, code := impl.RouterRoutes(r); len(list) != 0 || code != impl.ErrBad {
			t.Errorf("RouterRoutes(%s) = %v, %d", briefRouter(r), list, code)
		}
		if lines, code := impl.RouterText(r); len(lines) != 0 || code != impl.ErrBad {
			t.Errorf("RouterText(%s) = %s, %d", briefRouter(r), brief(lines), code)
		}
	})
	right := []byte(packetBytes([]impl.Message{helloFrom(2, mprNeighbor(3, 5))}))
	for _, b := range [][]byte{right, nil, right[1:]} {
		for _, from := range []int{2, r.Addr, 0, 9, math.MinInt} {
			checkHearRouterCode(t, r, from, 5, b, impl.ErrBad)
			checkHearRouterCode(t, r, from, 0, b, impl.ErrBad)
		}
	}
}

func TestPromise13WrongRoutersAreBad(t *testing.T) {
	for _, r := range wrongRouters() {
		checkWrongRouter(t, r)
	}
}

// Each bound of each field, from both sides.
func TestPromise13EachBoundOfARouter(t *testing.T) {
	for _, base := range []impl.Router{{Addr: 3}, plainRouter(), fullRouter(3)} {
		for _, f := range routerFields {
			for _, n := range wildRouterInts {
				r := clonedRouter(base)
				f.set(&r, n)
				if f.name == "Addr" {
					r = withoutOwn(r)
				}
				if got, want := impl.RouterOK(r), f.low <= n && n <= f.high; got != want {
					t.Errorf("RouterOK with %s %d = %v", f.name, n, got)
				}
			}
		}
	}
	for n := range 1000 {
		for _, sym := range []int{0, 9} {
			r := impl.Router{Addr: 1, Links: []impl.Link{{Addr: 2, Heard: 9, Sym: sym, In: 1, Out: n}}}
			want := n == 0 && sym == 0 || 1 <= n && n <= 256 || 256 < n && n <= 768 && n%2 == 0 || n > 768 && n%4 == 0
			if got := impl.RouterOK(r); got != want {
				t.Errorf("RouterOK with Out %d, Sym %d = %v", n, sym, got)
			}
		}
	}
}

// Selectors and marks are any right set; an edge may end at us, what was advertised may have had us.
func TestPromise13WhatARouterMayHaveOfItsOwnAddress(t *testing.T) {
	for addr := 1; addr <= 8; addr++ {
		other := 1 + addr%8
		top := impl.Topology{Sources: []impl.Source{{Addr: other, Until: 20}}, Edges: []impl.Tuple{{Key: 100*other + addr, Until: 20, Value: 1}}}
		for _, r := range []impl.Router{
			{Addr: addr, Selectors: []impl.Tuple{{Key: addr, Until: 20}}},
			{Addr: addr, Dups: []impl.Tuple{{Key: 65536 * addr, Until: 20, Value: 1}}},
			{Addr: addr, Topology: top},
			{Addr: addr, Last: edgesTo(addr)},
		} {
			checkRouter(t, r)
			checkTick(t, r)
			checkHearing(t, r, other, 5, helloFrom(other, mprNeighbor(addr, 4)), tcFrom(1+other%8, 9, edgesTo(addr)...))
		}
	}
}

func TestPromise13NewRoutersOutOfTheirBounds(t *testing.T) {
	check := func(addr, will, seq int) {
		t.Helper()
		mustNotPanic(t, "NewRouter", func() {
			right := 1 <= addr && addr <= 8 && 0 <= will && will <= 7 && 0 <= seq && seq <= 65535
			want, wantCode := impl.Router{}, impl.ErrRange
			if right {
				want, wantCode = impl.Router{Addr: addr, Will: will, Seq: seq}, impl.OK
			}
			if r, code := impl.NewRouter(addr, will, seq); !sameRouter(r, want) || code != wantCode {
				t.Errorf("NewRouter(%d, %d, %d) = %v, %d", addr, will, seq, r, code)
			}
		})
	}
	for _, n := range wildRouterInts {
		for _, m := range wildRouterInts {
			check(n, m, 7)
			check(n, 3, m)
			check(3, n, m)
			check(n, n, m)
		}
	}
}

// From that is no address is bad, whatever cost and bytes are.
func TestPromise13FromThatIsNoAddressIsBad(t *testing.T) {
	right := []byte(packetBytes([]impl.Message{helloFrom(2)}))
	for _, r := range []impl.Router{{Addr: 1}, hearer(), fullRouter(8)} {
		for _, from := range notAddresses() {
			for _, cost := range []int{5, 0, 257, math.MinInt, math.MaxInt} {
				checkHearRouterCode(t, r, from, cost, right, impl.ErrBad)
				checkHearRouterCode(t, r, from, cost, nil, impl.ErrBad)
			}
		}
	}
}

func TestPromise13FromUsIsSelfAheadOfRange(t *testing.T) {
	for _, r := range rightRouters() {
		right := []byte(packetBytes([]impl.Message{helloFrom(r.Addr, mprNeighbor(r.Addr, 5)), tcFrom(1+r.Addr%8, 4)}))
		for _, cost := range []int{1, 5, 256, 0, 257, -1, math.MinInt, math.MaxInt} {
			checkHearRouterCode(t, r, r.Addr, cost, right, impl.ErrSelf)
			checkHearRouterCode(t, r, r.Addr, cost, nil, impl.ErrSelf)
		}
	}
}

func TestPromise13CostsOutOfTheirBounds(t *testing.T) {
	list := []impl.Message{helloFrom(2, mprNeighbor(1, 40))}
	right := []byte(packetBytes(list))
	for _, r := range []impl.Router{{Addr: 1}, hearer(), fullRouter(1)} {
		for _, cost := range wildRouterInts {
			if 1 <= cost && cost <= 256 {
				checkHearing(t, r, 2, cost, list...)
				checkNoPacketHeard(t, r, 2, cost, nil)
				continue
			}
			checkHearRouterCode(t, r, 2, cost, right, impl.ErrRange)
			checkHearRouterCode(t, r, 2, cost, right[1:], impl.ErrRange)
			checkHearRouterCode(t, r, 2, cost, nil, impl.ErrRange)
		}
	}
}

// Bytes above MaxText are too long ahead of all else, also of what is right else.
func TestPromise13LongBytesAreLongAheadOfAll(t *testing.T) {
	for _, b := range [][]byte{make([]byte, impl.MaxText+1), append([]byte(packetBytes([]impl.Message{helloFrom(2)})), make([]byte, impl.MaxText)...), make([]byte, 1<<20)} {
		for _, r := range []impl.Router{{}, {Addr: 1}, hearer(), fullRouter(1), ownRouters()[0], {Addr: 9}} {
			for _, from := range []int{2, 1, 0, 9, math.MinInt} {
				for _, cost := range []int{5, 0, 257, math.MaxInt} {
					checkHearRouterCode(t, r, from, cost, b, impl.ErrLong)
				}
			}
		}
	}
	checkNoPacketHeard(t, hearer(), 2, 5, make([]byte, impl.MaxText))
}
