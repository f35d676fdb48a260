package tests

import (
	"math"
	"slices"
	"testing"

	"loop.example/g00419/impl"
)

// relayCalls has all calls of chapter 9, their numbers and lists told in one way: whether all but the code is zero, and the code.
// Those without a list of relays are told apart, as they have no fault of one.
var relayCalls = []struct {
	name string
	list bool
	call func(two []impl.Tuple, links []impl.Link, me, now, addr int, mprs []int) (bool, int)
}{
	{"Degree", false, func(two []impl.Tuple, links []impl.Link, me, now, addr int, mprs []int) (bool, int) {
		n, code := impl.Degree(two, links, me, now, addr)
		return n == 0, code
	}},
	{"FloodMprs", false, func(two []impl.Tuple, links []impl.Link, me, now, addr int, mprs []int) (bool, int) {
		list, code := impl.FloodMprs(two, links, me, now)
		return len(list) == 0, code
	}},
	{"RouteMprs", false, func(two []impl.Tuple, links []impl.Link, me, now, addr int, mprs []int) (bool, int) {
		list, code := impl.RouteMprs(two, links, me, now)
		return len(list) == 0, code
	}},
	{"Covers", true, func(two []impl.Tuple, links []impl.Link, me, now, addr int, mprs []int) (bool, int) {
		ok, code := impl.Covers(two, links, me, now, mprs)
		return !ok, code
	}},
	{"Needless", true, func(two []impl.Tuple, links []impl.Link, me, now, addr int, mprs []int) (bool, int) {
		list, code := impl.Needless(two, links, me, now, mprs)
		return len(list) == 0, code
	}},
	{"TwoCost", true, func(two []impl.Tuple, links []impl.Link, me, now, addr int, mprs []int) (bool, int) {
		n, code := impl.TwoCost(two, links, addr, now, mprs)
		return n == 0, code
	}},
	{"Keeps", true, func(two []impl.Tuple, links []impl.Link, me, now, addr int, mprs []int) (bool, int) {
		ok, code := impl.Keeps(two, links, me, now, mprs)
		return !ok, code
	}},
}

// checkRelayCalls asks that each call on relays answers this code, and else zero, whatever its numbers are.
// Of those without a list of relays, which have no fault of it, it asks for wantOthers.
func checkRelayCalls(t *testing.T, two []impl.Tuple, links []impl.Link, mprs []int, want, wantOthers int) {
	t.Helper()
	for _, c := range relayCalls {
		wantCode := wantOthers
		if c.list {
			wantCode = want
		}
		mustNotPanic(t, c.name, func() {
			for _, n := range []int{1, 0, 9, -1, math.MinInt, math.MaxInt} {
				for _, now := range []int{10, n} {
					zero, code := c.call(two, links, n, now, n, mprs)
					if code != wantCode || code != impl.OK && !zero {
						t.Errorf("%s of %s, %s, %d at %d with %s: code %d, not %d, or not zero", c.name, brief(two), brief(links), n, now, brief(mprs), code, wantCode)
					}
				}
			}
		})
	}
}

// relayLists has right ones, those with numbers that are no address, and one of just MaxAddr.
func relayLists() [][]int {
	return [][]int{nil, {2}, {2, 2}, {0, 9, -1, math.MinInt, math.MaxInt}, {1, 2, 3, 4, 5, 6, 7, 8}}
}

// manyRelays are more than MaxAddr, from one more on to just what a list may have.
func manyRelays() [][]int {
	return [][]int{make([]int, 9), {1, 2, 3, 4, 5, 6, 7, 8, 8}, {2, 2, 2, 2, 2, 2, 2, 2, 2}, slices.Repeat([]int{2, 3}, 10), make([]int, impl.MaxList-1), slices.Repeat([]int{-1}, impl.MaxList)}
}

func longRelays() [][]int {
	return [][]int{make([]int, impl.MaxList+1), slices.Repeat([]int{2}, impl.MaxList+1), slices.Repeat([]int{2, 3}, 40000)}
}

func TestPromise9WrongSetsAreBad(t *testing.T) {
	for i, two := range wrongTwos() {
		for _, links := range [][]impl.Link{nil, symLinksOf(1, 2, 3, 4, 5, 6, 7, 8), linksOf(2, 1)} {
			checkRelayCalls(t, two, links, relayLists()[i%len(relayLists())], impl.ErrBad, impl.ErrBad)
		}
	}
}

func TestPromise9WrongLinksAreBad(t *testing.T) {
	for i, links := range wrongLinks() {
		for _, two := range [][]impl.Tuple{nil, plainTwo(), {{Key: 303}}} {
			checkRelayCalls(t, two, links, relayLists()[i%len(relayLists())], impl.ErrBad, impl.ErrBad)
		}
	}
}

func TestPromise9EachKeyOfASet(t *testing.T) {
	links := symLinksOf(2)
	for key := 0; key <= 1200; key++ {
		via, addr := key/100, key%100
		want := impl.ErrBad
		if 1 <= via && via <= 8 && 1 <= addr && addr <= 8 && via != addr {
			want = impl.OK
		}
		for _, c := range relayCalls {
			if c.name == "TwoCost" && want == impl.OK {
				continue // its ErrNone is asked for elsewhere
			}
			if _, code := c.call([]impl.Tuple{{Key: key, Until: 30}}, links, 1, 10, 2, nil); code != want {
				t.Errorf("%s with key %d: %d", c.name, key, code)
			}
		}
	}
}

func TestPromise9MoreRelaysThanAddressesAreMany(t *testing.T) {
	for _, mprs := range manyRelays() {
		for _, two := range [][]impl.Tuple{nil, plainTwo(), fullTwo()} {
			for _, links := range [][]impl.Link{nil, plainLinks(), symLinksOf(1, 2, 3, 4, 5, 6, 7, 8)} {
				checkRelayCalls(t, two, links, mprs, impl.ErrMany, impl.OK)
			}
		}
	}
	// Just MaxAddr are not too many, even if one is there at each place.
	for _, mprs := range [][]int{{1, 2, 3, 4, 5, 6, 7, 8}, {2, 2, 2, 2, 2, 2, 2, 2}, make([]int, 8)} {
		if len(mprs) != impl.MaxAddr {
			t.Fatal("the most relays", len(mprs))
		}
		for _, two := range [][]impl.Tuple{nil, plainTwo(), fullTwo()} {
			checkReached(t, two, symLinksOf(2, 3), 1, 10, mprs)
			checkKeeps(t, two, symLinksOf(2, 3), 1, 10, mprs)
			checkTwoCost(t, two, symLinksOf(2, 3), 5, 10, mprs)
		}
	}
}

// ErrBad is named ahead of ErrMany, and ErrMany ahead of TwoCost's ErrNone.
func TestPromise9BadAheadOfMany(t *testing.T) {
	for _, mprs := range manyRelays() {
		for _, two := range [][]impl.Tuple{{{Key: 303}}, {{Key: 305}, {Key: 304}}, {{Key: 205, Until: -1}}, longList(impl.MaxList)} {
			checkRelayCalls(t, two, symLinksOf(2, 3), mprs, impl.ErrBad, impl.ErrBad)
		}
		for _, links := range [][]impl.Link{linksOf(2, 1), {{Addr: 2}}, risingLinks(9), risingLinks(impl.MaxList)} {
			checkRelayCalls(t, plainTwo(), links, mprs, impl.ErrBad, impl.ErrBad)
		}
		if n, code := impl.TwoCost(nil, nil, 5, 10, mprs); n != 0 || code != impl.ErrMany {
			t.Errorf("TwoCost of nobody by %s: %d, %d", brief(mprs), n, code)
		}
	}
}

func TestPromise9LongListsAreLongAheadOfAll(t *testing.T) {
	twos := [][]impl.Tuple{nil, plainTwo(), {{Key: 303}}, {{Key: 205, Until: -1}}, longList(impl.MaxList)}
	links := [][]impl.Link{nil, symLinksOf(2, 3), linksOf(2, 1), risingLinks(impl.MaxList)}
	mprs := append(append(relayLists(), manyRelays()...), longRelays()...)
	for _, list := range mprs {
		for _, long := range longTwos() {
			for _, l := range append(links, longLinks()[0]) {
				checkRelayCalls(t, long, l, list, impl.ErrLong, impl.ErrLong)
			}
		}
		for _, long := range longLinks() {
			for _, two := range twos {
				checkRelayCalls(t, two, long, list, impl.ErrLong, impl.ErrLong)
			}
		}
	}
	for _, long := range longRelays() {
		for _, l := range links[:2] {
			for _, two := range twos[:2] {
				checkRelayCalls(t, two, l, long, impl.ErrLong, impl.OK)
			}
		}
		for _, l := range links[2:] {
			for _, two := range twos {
				checkRelayCalls(t, two, l, long, impl.ErrLong, impl.ErrBad)
			}
		}
		for _, two := range twos[2:] {
			checkRelayCalls(t, two, links[1], long, impl.ErrLong, impl.ErrBad)
		}
	}
}

// At a time below 0 nothing is over, but what is not there does not come.
func TestPromise9AnyIntegerAsNow(t *testing.T) {
	links := [][]impl.Link{nil, plainLinks(), willLinks(1, 7, 2, 3, 3, 0, 8, 3), {{Addr: 2, In: 1, Will: 1}}, edgeLinks(8)[31:]}
	for _, now := range wildLinkInts {
		for _, two := range [][]impl.Tuple{nil, {{Key: 204}}, plainTwo(), edgeTwo(), fullTwo()} {
			for _, list := range links {
				mustNotPanic(t, "a call with any now", func() {
					checkFloodAt(t, two, list, 1, now)
					checkRouteAt(t, two, list, 1, now)
				})
			}
		}
	}
	two, list := []impl.Tuple{{Key: 204}}, []impl.Link{{Addr: 2, In: 1, Will: 1}}
	for _, now := range []int{-1, math.MinInt} {
		if got, code := impl.FloodMprs(two, list, 1, now); !slices.Equal(got, []int{2}) || code != impl.OK {
			t.Errorf("FloodMprs at %d = %v, %d", now, got, code)
		}
		if cost, code := impl.TwoCost(two, list, 4, now, []int{2}); cost != 1 || code != impl.OK {
			t.Errorf("TwoCost at %d = %d, %d", now, cost, code)
		}
	}
}

// Chapter 9 names no fault of an address: one that is none reaches nobody, is reached by nobody, and takes nobody out.
func TestPromise9AnyIntegerAsAddress(t *testing.T) {
	two, links := keysTwo(201, 205, 206, 306, 308), willLinks(2, 3, 3, 3)
	for _, n := range notAddresses() {
		mustNotPanic(t, "a call with any address", func() {
			for _, set := range [][]impl.Tuple{nil, plainTwo(), fullTwo(), two} {
				checkFloodAt(t, set, links, n, 10)
				checkRouteAt(t, set, links, n, 10)
			}
			if got, code := impl.Degree(two, links, 4, 10, n); got != 0 || code != impl.OK {
				t.Errorf("Degree of %d = %d, %d", n, got, code)
			}
			if got, code := impl.Degree(two, links, n, 10, 2); got != 3 || code != impl.OK {
				t.Errorf("Degree of 2 to %d = %d, %d", n, got, code)
			}
			if got, code := impl.TwoCost(two, links, n, 10, []int{1, 2, 3, 4, 5, 6, 7, 8}); got != 0 || code != impl.ErrNone {
				t.Errorf("TwoCost of %d = %d, %d", n, got, code)
			}
		})
	}
}

// A relay that is no address, or no neighbor, reaches nobody, and no way goes by it.
func TestPromise9AnyIntegerAsRelay(t *testing.T) {
	two, links := keysTwo(205, 206, 306, 407, 408), willLinks(2, 3, 3, 3)
	for _, n := range append(notAddresses(), 1, 4, 5, 6, 7, 8) {
		mustNotPanic(t, "a call with any relay", func() {
			for _, mprs := range [][]int{{n}, {n, 3}, {3, n, n}} {
				if ok, code := impl.Covers(two, links, 1, 10, mprs); ok || code != impl.OK {
					t.Errorf("Covers by %v = %v, %d", mprs, ok, code)
				}
				if got, code := impl.Needless(two, links, 1, 10, mprs); len(got) != 0 || code != impl.OK {
					t.Errorf("Needless of %v = %v, %d", mprs, got, code)
				}
				if ok, code := impl.Keeps(two, links, 1, 10, mprs); ok || code != impl.OK {
					t.Errorf("Keeps by %v = %v, %d", mprs, ok, code)
				}
				if cost, code := impl.TwoCost(two, links, 5, 10, mprs); cost != 0 || code != impl.ErrNone {
					t.Errorf("TwoCost by %v = %d, %d", mprs, cost, code)
				}
			}
			if got, code := impl.Needless(two, links, 1, 10, []int{n, 2, n, 3}); !slices.Equal(got, []int{n, n, 3}) || code != impl.OK {
				t.Errorf("Needless with %d = %v, %d", n, got, code)
			}
			if ok, code := impl.Keeps(two, links, 1, 10, []int{n, 2}); !ok || code != impl.OK {
				t.Errorf("Keeps with %d = %v, %d", n, ok, code)
			}
		})
	}
}
