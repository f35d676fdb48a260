package tests

import (
	"slices"
	"testing"

	"loop.example/g00419/impl"
)

// wildRouteInts are integers around all bounds of a route's fields.
var wildRouteInts = append([]int{maxCost - 1, maxCost, maxCost + 1}, wildLinkInts...)

// A routeField is a bounded number of a route.
type routeField struct {
	name      string
	low, high int
	set       func(x *impl.Route, n int)
}

var routeFields = []routeField{
	{"To", 1, 8, func(x *impl.Route, n int) { x.To = n }},
	{"Next", 1, 8, func(x *impl.Route, n int) { x.Next = n }},
	{"Cost", 1, maxCost, func(x *impl.Route, n int) { x.Cost = n }},
	{"Hops", 1, 8, func(x *impl.Route, n int) { x.Hops = n }},
}

func routesAt(addrs ...int) []impl.Route {
	var list []impl.Route
	for _, addr := range addrs {
		list = append(list, impl.Route{To: addr, Next: 2, Cost: 5, Hops: 2})
	}
	return list
}

// risingRoutes has n routes whose To rise, also beyond the greatest address.
func risingRoutes(n int) []impl.Route {
	list := make([]impl.Route, n)
	for i := range list {
		list[i] = routesAt(i + 1)[0]
	}
	return list
}

func wrongRoutes() [][]impl.Route {
	lists := [][]impl.Route{{{}}, {{To: 1}}, {{Next: 1, Cost: 1, Hops: 1}}, {{To: 1, Cost: 1, Hops: 1}}, {{To: 1, Next: 1, Hops: 1}}, {{To: 1, Next: 1, Cost: 1}}}
	for _, addrs := range [][]int{{1, 1}, {8, 8}, {2, 1}, {8, 1}, {1, 3, 2}, {1, 3, 3}, {3, 3, 4}, {3, 2, 4}, {1, 2, 3, 4, 5, 6, 8, 7}, {0, 1}, {8, 9}} {
		lists = append(lists, routesAt(addrs...))
	}
	for _, n := range []int{9, 10, 255, 256, impl.MaxList - 1, impl.MaxList} {
		lists = append(lists, risingRoutes(n), slices.Repeat(routesAt(1), n), make([]impl.Route, n))
	}
	for _, f := range routeFields {
		for _, n := range wildRouteInts {
			if f.low <= n && n <= f.high {
				continue
			}
			x, ahead, behind := routesAt(4)[0], routesAt(1)[0], routesAt(8)[0]
			f.set(&x, n)
			lists = append(lists, []impl.Route{x}, []impl.Route{ahead, x}, []impl.Route{x, behind}, []impl.Route{ahead, x, behind})
		}
	}
	return lists
}

func longRoutes() [][]impl.Route {
	return [][]impl.Route{risingRoutes(impl.MaxList + 1), make([]impl.Route, impl.MaxList+1), slices.Repeat(routesAt(1), impl.MaxList+1), risingRoutes(70000)}
}

func checkDiffCode(t *testing.T, a, b []impl.Route, want int) {
	t.Helper()
	mustNotPanic(t, "RouteDiff", func() {
		if got, code := impl.RouteDiff(a, b); len(got) != 0 || code != want {
			t.Errorf("RouteDiff(%s, %s) = %s, %d, not code %d", brief(a), brief(b), brief(got), code, want)
		}
	})
}

// checkRoutesCode asks that each call on routes answers this code, and else zero.
func checkRoutesCode(t *testing.T, list []impl.Route, want int) {
	t.Helper()
	mustNotPanic(t, "a call on routes that are not right", func() {
		for _, to := range someInts {
			if x, code := impl.RouteTo(list, to); x != (impl.Route{}) || code != want {
				t.Errorf("RouteTo(%s, %d) = %v, %d, not code %d", brief(list), to, x, code, want)
			}
		}
		if got, code := impl.RoutesText(list); len(got) != 0 || code != want {
			t.Errorf("RoutesText(%s) = %s, %d, not code %d", brief(list), brief(got), code, want)
		}
	})
	for _, other := range [][]impl.Route{nil, plainRoutes(), fullRoutes(), edgeRoutes(), list, routesAt(2, 1)} {
		checkDiffCode(t, list, other, want)
		checkDiffCode(t, other, list, want)
	}
}

func TestPromise12WrongRoutesAreBad(t *testing.T) {
	for _, list := range wrongRoutes() {
		checkRoutesCode(t, list, impl.ErrBad)
	}
}

// Both lists are looked at for their lengths ahead of either one's faults.
func TestPromise12LongRoutesAreLongAheadOfBad(t *testing.T) {
	for _, list := range longRoutes() {
		checkRoutesCode(t, list, impl.ErrLong)
		checkDiffCode(t, list, risingRoutes(impl.MaxList), impl.ErrLong)
		checkDiffCode(t, risingRoutes(impl.MaxList), list, impl.ErrLong)
		for _, wrong := range wrongRoutes() {
			checkDiffCode(t, wrong, list, impl.ErrLong)
			checkDiffCode(t, list, wrong, impl.ErrLong)
		}
	}
}

func TestPromise12EachBoundOfARoute(t *testing.T) {
	for _, f := range routeFields {
		for _, n := range wildRouteInts {
			x := routesAt(4)[0]
			f.set(&x, n)
			list, want := []impl.Route{x}, impl.ErrBad
			if f.low <= n && n <= f.high {
				want = impl.OK
				checkRoutes(t, list)
			}
			if _, code := impl.RoutesText(list); code != want {
				t.Errorf("RoutesText with %s %d: %d, not %d", f.name, n, code, want)
			}
		}
	}
}

// RouteTo names no fault of to: to an integer that is no address there is no route.
func TestPromise12AnyIntegerAsTo(t *testing.T) {
	for _, to := range notAddresses() {
		for _, list := range [][]impl.Route{nil, {}, plainRoutes(), edgeRoutes(), fullRoutes()} {
			mustNotPanic(t, "RouteTo", func() {
				if x, code := impl.RouteTo(list, to); x != (impl.Route{}) || code != impl.ErrNone {
					t.Errorf("RouteTo(%v, %d) = %v, %d", list, to, x, code)
				}
			})
		}
	}
}
