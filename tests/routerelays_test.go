package tests

import (
	"slices"
	"testing"

	"loop.example/g00419/impl"
)

// costLinks has a link of each address, and the In and the Will behind it, symmetric until 20.
func costLinks(triples ...int) []impl.Link {
	var list []impl.Link
	for i := 0; i < len(triples); i += 3 {
		x := symLink(triples[i])
		x.In, x.Will = triples[i+1], triples[i+2]
		list = append(list, x)
	}
	return list
}

// toldTwo has a two-hop neighbor of each key, and the metric behind it, until 30.
func toldTwo(pairs ...int) []impl.Tuple {
	var list []impl.Tuple
	for i := 0; i < len(pairs); i += 2 {
		list = append(list, impl.Tuple{Key: pairs[i], Until: 30, Value: pairs[i+1]})
	}
	return list
}

// wantOwn is what the way from addr itself costs, and whether there is one.
func wantOwn(links []impl.Link, addr, now int) (int, bool) {
	for _, x := range links {
		if x.Addr == addr && wantStatus(x, now) == 2 {
			return x.In, true
		}
	}
	return 0, false
}

func wantCostBy(two []impl.Tuple, links []impl.Link, via, addr int) int {
	x, _ := twoAt(two, via, addr)
	return linkAt(links, via).In + x.Value
}

func wantTwoCost(two []impl.Tuple, links []impl.Link, addr, now int, some []int) (int, int) {
	var costs []int
	if own, there := wantOwn(links, addr, now); there {
		costs = append(costs, own)
	}
	for _, via := range wantViaOf(two, links, addr, now) {
		if slices.Contains(some, via) {
			costs = append(costs, wantCostBy(two, links, via, addr))
		}
	}
	if len(costs) == 0 {
		return 0, impl.ErrNone
	}
	return slices.Min(costs), impl.OK
}

// wantBy takes the ways of least cost, of these those of the greatest Will, of these the lowest address.
func wantBy(two []impl.Tuple, links []impl.Link, vias []int, addr int) int {
	for _, worth := range []func(int) int{
		func(via int) int { return -wantCostBy(two, links, via, addr) },
		func(via int) int { return linkAt(links, via).Will },
		func(via int) int { return -via },
	} {
		most := worth(vias[0])
		for _, via := range vias {
			most = max(most, worth(via))
		}
		vias = slices.DeleteFunc(slices.Clone(vias), func(via int) bool { return worth(via) < most })
	}
	return vias[0]
}

func wantRoute(two []impl.Tuple, links []impl.Link, me, now int) []int {
	var mprs []int
	for addr := 1; addr <= 8; addr++ {
		vias := wantViaOf(two, links, addr, now)
		if addr == me || len(vias) == 0 {
			continue
		}
		by := wantBy(two, links, vias, addr)
		if own, there := wantOwn(links, addr, now); !there || wantCostBy(two, links, by, addr) < own {
			mprs = append(mprs, by)
		}
	}
	slices.Sort(mprs)
	return slices.Compact(mprs)
}

func addrsOf(links []impl.Link) []int {
	var list []int
	for _, x := range links {
		list = append(list, x.Addr)
	}
	return list
}

func wantKeeps(two []impl.Tuple, links []impl.Link, me, now int, mprs []int) bool {
	for addr := 1; addr <= 8; addr++ {
		cost, code := wantTwoCost(two, links, addr, now, mprs)
		best, bestCode := wantTwoCost(two, links, addr, now, addrsOf(links))
		if addr != me && (cost != best || code != bestCode) {
			return false
		}
	}
	return true
}

// checkRoute asks for the relays, and that they are willing symmetric neighbors by which alone no way costs more.
func checkRoute(t *testing.T, two []impl.Tuple, links []impl.Link, me, now int) {
	t.Helper()
	got, code := impl.RouteMprs(two, links, me, now)
	if want := wantRoute(two, links, me, now); !slices.Equal(got, want) || code != impl.OK {
		t.Fatalf("RouteMprs(%v, %v, %d, %d) = %v, %d, not %v", two, links, me, now, got, code, want)
	}
	for _, addr := range got {
		if x, code := impl.LinkFind(links, addr); code != impl.OK || impl.StatusOf(x, now) != impl.StSym || x.Will == impl.WillNever {
			t.Fatalf("RouteMprs(%v, %v, %d, %d) = %v: %d is no willing symmetric neighbor", two, links, me, now, got, addr)
		}
	}
	for addr := 1; addr <= 8; addr++ {
		cost, code := impl.TwoCost(two, links, addr, now, got)
		best, bestCode := impl.TwoCost(two, links, addr, now, addrsOf(links))
		if addr != me && (cost != best || code != bestCode) {
			t.Fatalf("RouteMprs(%v, %v, %d, %d) = %v: to %d %d, %d, not %d, %d", two, links, me, now, got, addr, cost, code, best, bestCode)
		}
	}
	if ok, code := impl.Keeps(two, links, me, now, got); !ok || code != impl.OK {
		t.Fatalf("RouteMprs(%v, %v, %d, %d) = %v, which do not keep: %v, %d", two, links, me, now, got, ok, code)
	}
	if ok, code := impl.Covers(two, links, me, now, got); !ok || code != impl.OK {
		t.Fatalf("RouteMprs(%v, %v, %d, %d) = %v, which do not cover: %v, %d", two, links, me, now, got, ok, code)
	}
}

func checkTwoCost(t *testing.T, two []impl.Tuple, links []impl.Link, addr, now int, some []int) {
	t.Helper()
	want, wantCode := wantTwoCost(two, links, addr, now, some)
	if got, code := impl.TwoCost(two, links, addr, now, some); got != want || code != wantCode {
		t.Fatalf("TwoCost(%v, %v, %d, %d, %v) = %d, %d, not %d, %d", two, links, addr, now, some, got, code, want, wantCode)
	}
}

func checkKeeps(t *testing.T, two []impl.Tuple, links []impl.Link, me, now int, mprs []int) {
	t.Helper()
	if ok, code := impl.Keeps(two, links, me, now, mprs); ok != wantKeeps(two, links, me, now, mprs) || code != impl.OK {
		t.Fatalf("Keeps(%v, %v, %d, %d, %v) = %v, %d", two, links, me, now, mprs, ok, code)
	}
}

// checkRouteAt asks all that chapter 9 tells of relays for routes, at one time.
func checkRouteAt(t *testing.T, two []impl.Tuple, links []impl.Link, me, now int) {
	t.Helper()
	checkRoute(t, two, links, me, now)
	for _, some := range [][]int{nil, {1}, {8}, {2, 3}, {3, 2, 3}, {1, 2, 3, 4, 5, 6, 7, 8}, {8, 7, 6, 5, 4, 4, 4, 4}, {0, 9, -1}, wantRoute(two, links, me, now)} {
		for addr := -1; addr <= 10; addr++ {
			checkTwoCost(t, two, links, addr, now, some)
		}
		checkKeeps(t, two, links, me, now, some)
	}
}

func TestPromise9CostsByHand(t *testing.T) {
	// 4 is a neighbor of ours that is not willing, 5 is one that is dear, 6 is none.
	links := costLinks(2, 1, 3, 3, 2, 3, 4, 3, 0, 5, 9, 3)
	two := toldTwo(204, 1, 205, 4, 206, 7, 304, 2, 305, 3, 306, 0, 405, 0, 406, 0)
	for _, c := range []struct {
		what       string
		addr       int
		some       []int
		want, code int
	}{
		{"a neighbor by nobody", 5, nil, 9, impl.OK},
		{"a neighbor by one", 5, []int{2}, 5, impl.OK},
		{"a neighbor by another one", 5, []int{3}, 5, impl.OK},
		{"a neighbor by one that is not willing", 5, []int{4}, 9, impl.OK},
		{"a neighbor by itself", 5, []int{5}, 9, impl.OK},
		{"a neighbor that is not willing by nobody", 4, nil, 3, impl.OK},
		{"a neighbor that is not willing by a cheaper way", 4, []int{2}, 2, impl.OK},
		{"a neighbor that is not willing by a dearer way", 4, []int{3}, 3, impl.OK},
		{"another one by nobody", 6, nil, 0, impl.ErrNone},
		{"another one by one", 6, []int{2}, 8, impl.OK},
		{"another one, told with 0", 6, []int{3}, 2, impl.OK},
		{"another one by both, whatever their order", 6, []int{3, 2}, 2, impl.OK},
		{"another one by both, the cheaper one last", 6, []int{2, 3}, 2, impl.OK},
		{"another one by one twice", 6, []int{2, 2}, 8, impl.OK},
		{"another one by one that is not willing", 6, []int{4}, 0, impl.ErrNone},
		{"another one by no addresses", 6, []int{0, 9, -1, 206, 200}, 0, impl.ErrNone},
		{"another one by one that is no neighbor", 6, []int{7, 6, 1}, 0, impl.ErrNone},
		{"another one by all that there can be", 6, []int{1, 2, 3, 4, 5, 6, 7, 8}, 2, impl.OK},
		{"one that nobody tells of", 7, []int{2, 3, 4, 5}, 0, impl.ErrNone},
		{"one that is no address", 0, []int{2, 3, 4, 5}, 0, impl.ErrNone},
	} {
		if got, code := impl.TwoCost(two, links, c.addr, 10, c.some); got != c.want || code != c.code {
			t.Errorf("%s: %d, %d, not %d, %d", c.what, got, code, c.want, c.code)
		}
	}
	dear := []impl.Tuple{{Key: 208, Until: maxTime, Value: maxTime}}
	if got, code := impl.TwoCost(dear, costLinks(2, 256, 1), 8, 10, []int{2}); got != maxTime+256 || code != impl.OK {
		t.Errorf("the dearest way: %d, %d", got, code)
	}
}

// Of us, 1: who is chosen by which rule.
func TestPromise9RouteRelaysByHand(t *testing.T) {
	for _, c := range []struct {
		what  string
		two   []impl.Tuple
		links []impl.Link
		want  []int
	}{
		{"nobody is two hops away", nil, costLinks(2, 1, 3, 3, 1, 7), nil},
		{"there is no link", toldTwo(205, 1), nil, nil},
		{"we alone are two hops away", toldTwo(201, 1), costLinks(2, 1, 3), nil},
		{"the only one is not willing", toldTwo(205, 1), costLinks(2, 1, 0), nil},
		{"the only one", toldTwo(205, 1000), costLinks(2, 256, 1), []int{2}},
		{"always willing, reaching none", toldTwo(205, 1), costLinks(2, 9, 1, 3, 1, 7), []int{2}},
		{"a neighbor that a way makes cheaper", toldTwo(203, 1), costLinks(2, 1, 3, 3, 3, 3), []int{2}},
		{"a neighbor that a way costs just as much to", toldTwo(203, 2), costLinks(2, 1, 3, 3, 3, 3), nil},
		{"a neighbor that a way costs more to", toldTwo(203, 3), costLinks(2, 1, 3, 3, 3, 3), nil},
		{"a neighbor that is not willing, made cheaper", toldTwo(203, 1), costLinks(2, 1, 3, 3, 3, 0), []int{2}},
		{"a neighbor that is not willing, not made cheaper", toldTwo(203, 2), costLinks(2, 1, 3, 3, 3, 0), nil},
		{"the cheapest way, against the greater Will and the lower address", toldTwo(205, 2, 305, 1), costLinks(2, 2, 6, 3, 2, 1), []int{3}},
		{"the cheapest by In, not by what is told", toldTwo(205, 1, 305, 4), costLinks(2, 9, 3, 3, 2, 3), []int{3}},
		{"the cheapest by what is told, not by In", toldTwo(205, 9, 305, 1), costLinks(2, 2, 3, 3, 4, 3), []int{3}},
		{"alike, the greater Will, against the lower address", toldTwo(205, 2, 305, 1, 405, 3), costLinks(2, 2, 3, 3, 3, 5, 4, 1, 4), []int{3}},
		{"alike, nearly never willing against always", toldTwo(205, 2, 305, 1), costLinks(2, 2, 1, 3, 3, 7), []int{3}},
		{"alike, the lower address", toldTwo(205, 2, 305, 1, 405, 3), costLinks(2, 2, 3, 3, 3, 3, 4, 1, 3), []int{2}},
		{"alike, the lower address of those of the greatest Will", toldTwo(205, 2, 305, 1, 405, 3), costLinks(2, 2, 3, 3, 3, 4, 4, 1, 4), []int{3}},
		{"one of each, though one reaches all", toldTwo(205, 5, 206, 5, 207, 5, 305, 1, 406, 1), costLinks(2, 1, 7, 3, 1, 1, 4, 1, 1), []int{2, 3, 4}},
		{"the least and the greatest address", toldTwo(105, 1, 806, 1), costLinks(1, 1, 3, 8, 1, 3), []int{1, 8}},
	} {
		if got, code := impl.RouteMprs(c.two, c.links, 1, 10); !slices.Equal(got, c.want) || code != impl.OK {
			t.Errorf("%s: %v, %d, not %v", c.what, got, code, c.want)
		}
		checkRouteAt(t, c.two, c.links, 1, 10)
	}
}

func TestPromise9KeepsByHand(t *testing.T) {
	links := costLinks(2, 1, 3, 3, 1, 3, 4, 9, 3)
	two := toldTwo(201, 1, 204, 3, 205, 2, 304, 5, 305, 2, 306, 1)
	for _, c := range []struct {
		me   int
		mprs []int
		want bool
	}{
		{1, []int{2, 3}, true},
		{1, []int{3, 2}, true},
		{1, []int{2, 2, 3, 4, 0, 9, 7, -5}, true},
		{1, []int{1, 2, 3, 4, 5, 6, 7, 8}, true},
		{1, nil, false},
		{1, []int{2}, false},
		{1, []int{3}, false},
		{1, []int{4}, false},
		{1, []int{0, 9}, false},
		{6, []int{2}, true},
		{4, []int{3}, false},
		{5, []int{2, 3}, true},
	} {
		if ok, code := impl.Keeps(two, links, c.me, 10, c.mprs); ok != c.want || code != impl.OK {
			t.Errorf("Keeps of %d by %v: %v, %d", c.me, c.mprs, ok, code)
		}
	}
	for _, mprs := range [][]int{nil, {2}, {0}, {1, 2, 3, 4, 5, 6, 7, 8}} {
		if ok, code := impl.Keeps(nil, nil, 1, 10, mprs); !ok || code != impl.OK {
			t.Errorf("Keeps without a link by %v: %v, %d", mprs, ok, code)
		}
	}
}

func TestPromise9RouteRelaysByStatusAndTime(t *testing.T) {
	for until := 9; until <= 12; until++ {
		two := []impl.Tuple{{Key: 203, Until: until, Value: 1}, {Key: 205, Until: until, Value: 1}}
		for heard := 9; heard <= 12; heard++ {
			for sym := 9; sym <= 12; sym++ {
				for _, will := range []int{0, 1, 7} {
					x := impl.Link{Addr: 2, Heard: heard, Sym: sym, In: 1, Will: will}
					var want []int
					if until > 10 && heard > 10 && sym > 10 && will > 0 {
						want = []int{2}
					}
					for _, links := range [][]impl.Link{{x}, {x, symLink(3)}} {
						if got, code := impl.RouteMprs(two, links, 1, 10); !slices.Equal(got, want) || code != impl.OK {
							t.Errorf("RouteMprs(%v, %v, 1, 10) = %v, %d, not %v", two, links, got, code, want)
						}
						checkRouteAt(t, two, links, 1, 10)
					}
					// The dear link is the other one's own: it counts while it is symmetric alone.
					x.Addr, x.In = 3, 256
					links := []impl.Link{symLink(2), x}
					wantCost, wantCode := 0, impl.ErrNone
					if heard > 10 && sym > 10 {
						wantCost, wantCode = 256, impl.OK
					}
					if cost, code := impl.TwoCost(two, links, 3, 10, nil); cost != wantCost || code != wantCode {
						t.Errorf("TwoCost(%v, %v, 3, 10, nil) = %d, %d", two, links, cost, code)
					}
					checkRouteAt(t, two, links, 1, 10)
				}
			}
		}
	}
}

// All costs of ways by two neighbors to an own neighbor and to another one, with Wills that tie and that do not.
func TestPromise9EachSmallNetOfWays(t *testing.T) {
	for mix := range 3 * 3 * 3 * 3 * 3 * 4 {
		next := func(n int) int {
			digit := mix % n
			mix /= n
			return digit
		}
		two := toldTwo(204, next(3), 205, next(3), 304, next(3), 305, next(3))
		links := costLinks(2, 1+next(3), 3, 3, 2, 1+next(4), 4, 3, 3)
		checkRouteAt(t, two, links, 1, 10)
	}
}

func TestPromise9EachListOfRelaysForRoutes(t *testing.T) {
	d := &draws{93}
	for range 20 {
		two, links, me := d.closeTwo(), d.closeLinks(), 1+d.next(8)
		for choice := range 1 << 8 {
			var mprs []int
			for i := range 8 {
				if choice>>i&1 == 1 {
					mprs = append(mprs, i+1)
				}
			}
			checkKeeps(t, two, links, me, 10, mprs)
			checkTwoCost(t, two, links, 1+choice%8, 10, mprs)
		}
	}
}

func TestPromise9RightSetsHaveRouteRelays(t *testing.T) {
	links := [][]impl.Link{nil, plainLinks(), symLinksOf(1, 2, 3, 4, 5, 6, 7, 8), symLinksOf(1), symLinksOf(8), symLinksOf(2, 3, 7), costLinks(1, 1, 7, 4, 256, 1, 8, 30, 0)}
	for _, two := range rightTwos() {
		for _, list := range links {
			for _, now := range []int{-1, 11, 12, 19, 20} {
				checkRouteAt(t, two, list, 1+len(two)%8, now)
			}
		}
	}
}

func TestPromise9EdgesOfLinksHaveRouteRelays(t *testing.T) {
	for i, x := range edgeLinks(1) {
		for _, y := range []impl.Link{edgeLinks(8)[i], edgeLinks(8)[31-i]} {
			for _, two := range [][]impl.Tuple{nil, edgeTwo(), fullTwo()} {
				for _, now := range []int{-1, 0, maxTime - 1, maxTime} {
					checkRouteAt(t, two, []impl.Link{x, y}, 1+i%8, now)
				}
			}
		}
	}
}

func TestPromise9DrawnRouteRelays(t *testing.T) {
	d := &draws{94}
	for range 6000 {
		two, links, me, now := d.closeTwo(), d.closeLinks(), d.next(10), 9+d.next(3)
		checkRoute(t, two, links, me, now)
		checkTwoCost(t, two, links, d.next(10), now, d.relayList())
		checkKeeps(t, two, links, me, now, d.relayList())
		checkKeeps(t, two, links, me, now, wantFlood(two, links, me, now))
	}
	for range 300 {
		checkRouteAt(t, d.two(), d.links(), 1+d.next(8), d.next(42)-1)
	}
}
