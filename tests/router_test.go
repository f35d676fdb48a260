package tests

import (
	"slices"
	"strconv"
	"testing"

	"loop.example/g00419/impl"
)

const (
	maxTick   = 100000
	maxErrors = 1000000
)

// plainRouter is 3 at tick 10: 2 and 5 are symmetric, 4 is heard, 7 is lost; 5 is always willing, by 2 there are 4 and
// 6, by 5 there is 8; 2 and 5 have chosen us.
func plainRouter() impl.Router {
	return impl.Router{
		Addr: 3, Will: 4, Seq: 100, Ansn: 9, Now: 10,
		Links: []impl.Link{
			{Addr: 2, Heard: 16, Sym: 16, In: 5, Out: 7, Will: 3},
			{Addr: 4, Heard: 14, In: 256},
			{Addr: 5, Heard: 15, Sym: 15, In: 2, Out: 258, Will: 7},
			{Addr: 7, Heard: 9, Sym: 30, In: 1, Out: 1, Will: 3},
		},
		Two:       []impl.Tuple{{Key: 204, Until: 16, Value: 9}, {Key: 206, Until: 16, Value: 3}, {Key: 508, Until: 15, Value: 6}, {Key: 706, Until: 30, Value: 1}},
		Selectors: []impl.Tuple{{Key: 2, Until: 16}, {Key: 5, Until: 15}},
		Dups:      []impl.Tuple{{Key: 5*65536 + 7, Until: 20, Value: 1}, {Key: 6*65536 + 1, Until: 22}},
		Topology: impl.Topology{
			Sources: []impl.Source{{Addr: 2, Ansn: 65535, Until: 27}, {Addr: 5, Until: 40}, {Addr: 6, Ansn: 7, Until: 25}},
			Edges:   []impl.Tuple{{Key: 203, Until: 27, Value: 5}, {Key: 206, Until: 27, Value: 3}, {Key: 608, Until: 25, Value: 258}},
		},
		Last:   []impl.Edge{{To: 2, Metric: 7}},
		Errors: 4,
	}
}

// fullRouter has all links, two-hop neighbors, sources and edges that it may have, and sets without room.
func fullRouter(addr int) impl.Router {
	return withoutOwn(impl.Router{
		Addr: addr, Will: 3, Seq: 7, Ansn: 8, Now: 10,
		Links: symLinksOf(1, 2, 3, 4, 5, 6, 7, 8), Two: fullTwo(), Selectors: fullSet(), Dups: fullMarks(),
		Topology: fullTopology(), Last: risingEdges(8), Errors: 9,
	})
}

// withoutOwn leaves out all that has the router's own address and may not.
func withoutOwn(r impl.Router) impl.Router {
	own := func(x impl.Tuple) bool { return x.Key/100 == r.Addr }
	r.Links = linksBut(r.Links, r.Addr)
	r.Two = chosen(r.Two, func(x impl.Tuple) bool { return !own(x) && x.Key%100 != r.Addr })
	r.Topology.Sources = slices.DeleteFunc(slices.Clone(r.Topology.Sources), func(x impl.Source) bool { return x.Addr == r.Addr })
	r.Topology.Edges = chosen(r.Topology.Edges, func(x impl.Tuple) bool { return !own(x) })
	return r
}

func clonedRouter(r impl.Router) impl.Router {
	r.Links, r.Last = slices.Clone(r.Links), slices.Clone(r.Last)
	r.Two, r.Selectors, r.Dups = slices.Clone(r.Two), slices.Clone(r.Selectors), slices.Clone(r.Dups)
	r.Topology = cloned(r.Topology)
	return r
}

func sameRouter(a, b impl.Router) bool {
	return a.Addr == b.Addr && a.Will == b.Will && a.Seq == b.Seq && a.Ansn == b.Ansn && a.Now == b.Now &&
		slices.Equal(a.Links, b.Links) && slices.Equal(a.Two, b.Two) &&
		slices.Equal(a.Selectors, b.Selectors) && slices.Equal(a.Dups, b.Dups) &&
		sameTopology(a.Topology, b.Topology) && slices.Equal(a.Last, b.Last) && a.Errors == b.Errors
}

// number is often at the edges of numbers that go round.
func (d *draws) number() int {
	return []int{0, 1, 65534, 65535, d.next(65536)}[d.next(5)]
}

// router is a right one, whose times lie around its Now, and which often advertised just what it has to tell.
func (d *draws) router() impl.Router {
	r := impl.Router{Addr: 1 + d.next(8), Will: d.next(8), Seq: d.number(), Ansn: d.number(), Now: 5 + d.next(25), Errors: d.next(100)}
	for _, x := range d.links() {
		x.Heard, x.Sym, x.Out = r.Now-8+d.next(16), max(0, r.Now-3+d.next(10)), wantMetric(d.next(4095))
		x.Heard = max(0, x.Heard)
		if d.next(4) == 0 {
			x.Sym, x.Out = 0, 0
		}
		r.Links = append(r.Links, x)
	}
	r.Two, r.Dups, r.Topology = d.two(), d.marks(), d.topology()
	for addr := 1; addr <= 8; addr++ {
		if d.next(2) == 0 {
			r.Selectors = append(r.Selectors, impl.Tuple{Key: addr, Until: max(0, r.Now-2+d.next(9))})
		}
	}
	r = withoutOwn(r)
	r.Last = wantAdvertised(r)
	if d.next(2) == 0 {
		r.Last = d.tc().List
	}
	return r
}

// edgeRouters have the least or the greatest of one number, all else being as in others.
func edgeRouters() []impl.Router {
	var list []impl.Router
	for _, r := range []impl.Router{{Addr: 3}, plainRouter(), fullRouter(3)} {
		for _, f := range routerFields {
			for _, n := range []int{f.low, f.low + 1, f.high - 1, f.high} {
				x := clonedRouter(r)
				f.set(&x, n)
				list = append(list, withoutOwn(x))
			}
		}
	}
	return list
}

// routerFields has each number of a router with its bounds, and a way to set it.
var routerFields = []struct {
	name      string
	low, high int
	set       func(r *impl.Router, n int)
}{
	{"Addr", 1, 8, func(r *impl.Router, n int) { r.Addr = n }},
	{"Will", 0, 7, func(r *impl.Router, n int) { r.Will = n }},
	{"Seq", 0, 65535, func(r *impl.Router, n int) { r.Seq = n }},
	{"Ansn", 0, 65535, func(r *impl.Router, n int) { r.Ansn = n }},
	{"Now", 0, maxTick, func(r *impl.Router, n int) { r.Now = n }},
	{"Errors", 0, maxErrors, func(r *impl.Router, n int) { r.Errors = n }},
}

func rightRouters() []impl.Router {
	list := append(edgeRouters(), plainRouter())
	for addr := 1; addr <= 8; addr++ {
		list = append(list, impl.Router{Addr: addr}, fullRouter(addr))
	}
	for _, sets := range [][]impl.Tuple{edgeSet(), strayMarks(), fullSet()} {
		list = append(list, impl.Router{Addr: 2, Selectors: sets}, impl.Router{Addr: 2, Dups: sets})
	}
	for _, tc := range edgeTcs() {
		list = append(list, impl.Router{Addr: 8, Ansn: tc.Ansn, Last: tc.List})
	}
	for _, x := range []impl.Link{
		{Addr: 1, In: 1}, {Addr: 8, Heard: maxTime, In: 256, Out: toldMost, Will: 7}, {Addr: 8, Heard: maxTime, Sym: maxTime, In: 1, Out: toldMost},
		{Addr: 8, Heard: maxTime, In: 1}, {Addr: 8, In: 1, Out: 1}, {Addr: 1, Sym: 1, In: 256, Out: 1}, {Addr: 1, Sym: maxTime, In: 256, Out: 258},
	} {
		list = append(list, impl.Router{Addr: 4, Links: []impl.Link{x}}, impl.Router{Addr: 4, Now: maxTick, Links: []impl.Link{x}})
	}
	d := &draws{131}
	for range 150 {
		list = append(list, d.router())
	}
	return list
}

func wantAdvertised(r impl.Router) []impl.Edge {
	var want []impl.Edge
	for _, x := range r.Links {
		if wantStatus(x, r.Now) == 2 {
			want = append(want, impl.Edge{To: x.Addr, Metric: x.Out})
		}
	}
	return want
}

func wantHelloNow(r impl.Router) impl.Hello {
	mprs := wantFlood(r.Two, r.Links, r.Addr, r.Now)
	h := impl.Hello{Will: r.Will, Valid: 6}
	for _, x := range r.Links {
		h.List = append(h.List, impl.Neighbor{Addr: x.Addr, Status: wantStatus(x, r.Now), Metric: x.In, Mpr: slices.Contains(mprs, x.Addr)})
	}
	return h
}

func wantTcNow(r impl.Router) (impl.Router, impl.Tc) {
	list := wantAdvertised(r)
	if !slices.Equal(list, r.Last) {
		r.Last, r.Ansn = list, (r.Ansn+1)%65536
	}
	return r, impl.Tc{Ansn: r.Ansn, Valid: 15, List: list}
}

func wantRouterRoutes(r impl.Router) []impl.Route {
	var want []impl.Route
	for _, x := range wantWays(wantGraphOf(r.Addr, r.Links, r.Topology, r.Now), r.Addr) {
		if x.To != 0 {
			want = append(want, x)
		}
	}
	return want
}

func wantRouterText(r impl.Router) []string {
	var want []string
	for _, x := range r.Links {
		word := []string{"lost", "heard", "sym"}[wantStatus(x, r.Now)]
		want = append(want, strconv.Itoa(x.Addr)+" "+word+" "+strconv.Itoa(x.In)+" "+strconv.Itoa(x.Out))
	}
	for _, x := range wantRouterRoutes(r) {
		want = append(want, routeText(x))
	}
	return want
}

// checkTcNow asks also that the same is advertised with the same number from then on.
func checkTcNow(t *testing.T, r impl.Router) impl.Router {
	t.Helper()
	want, wantTc := wantTcNow(r)
	got, tc, code := impl.TcNow(r)
	if !sameRouter(got, want) || !sameTc(tc, wantTc) || code != impl.OK {
		t.Fatalf("TcNow(%v) = %v, %v, %d, not %v, %v", r, got, tc, code, want, wantTc)
	}
	if !impl.RouterOK(got) || !impl.TcOK(tc) {
		t.Fatalf("TcNow(%v) made what is not right: %v, %v", r, got, tc)
	}
	if again, same, code := impl.TcNow(got); !sameRouter(again, got) || !sameTc(same, tc) || code != impl.OK {
		t.Fatalf("TcNow twice of %v: %v, %v, %d, then %v, %v", r, got, tc, code, again, same)
	}
	return got
}

// checkRouter holds all that is asked of a right router against what its lists say.
func checkRouter(t *testing.T, r impl.Router) {
	t.Helper()
	if !impl.RouterOK(r) {
		t.Fatalf("RouterOK(%v) = false", r)
	}
	h, code := impl.HelloNow(r)
	if !sameHello(h, wantHelloNow(r)) || code != impl.OK || !impl.HelloOK(h) {
		t.Fatalf("HelloNow(%v) = %v, %d, not %v", r, h, code, wantHelloNow(r))
	}
	checkTcNow(t, r)
	if got, code := impl.RouterRoutes(r); !slices.Equal(got, wantRouterRoutes(r)) || code != impl.OK {
		t.Fatalf("RouterRoutes(%v) = %v, %d, not %v", r, got, code, wantRouterRoutes(r))
	}
	if got, code := impl.RouterText(r); !slices.Equal(got, wantRouterText(r)) || code != impl.OK {
		t.Fatalf("RouterText(%v) = %q, %d, not %q", r, got, code, wantRouterText(r))
	}
}

func TestPromise13NewRouters(t *testing.T) {
	for addr := 1; addr <= 8; addr++ {
		for will := range 8 {
			for _, seq := range []int{0, 1, 255, 256, 32767, 32768, 65534, 65535} {
				r, code := impl.NewRouter(addr, will, seq)
				if !sameRouter(r, impl.Router{Addr: addr, Will: will, Seq: seq}) || code != impl.OK {
					t.Errorf("NewRouter(%d, %d, %d) = %v, %d", addr, will, seq, r, code)
				}
				checkRouter(t, r)
			}
		}
	}
}

func TestPromise13WhatANewRouterTells(t *testing.T) {
	r, _ := impl.NewRouter(5, 6, 65535)
	if h, code := impl.HelloNow(r); !sameHello(h, impl.Hello{Will: 6, Valid: 6}) || code != impl.OK {
		t.Error("HelloNow", h, code)
	}
	if x, tc, code := impl.TcNow(r); !sameRouter(x, r) || !sameTc(tc, impl.Tc{Valid: 15}) || code != impl.OK {
		t.Error("TcNow", x, tc, code)
	}
	if list, code := impl.RouterRoutes(r); len(list) != 0 || code != impl.OK {
		t.Error("RouterRoutes", list, code)
	}
	if lines, code := impl.RouterText(r); len(lines) != 0 || code != impl.OK {
		t.Error("RouterText", lines, code)
	}
}

func TestPromise13APlainRouterByHand(t *testing.T) {
	r := plainRouter()
	h, code := impl.HelloNow(r)
	if text, _ := impl.HelloText(h); text != "will 4 valid 6 2:sym:5:mpr 4:heard:256 5:sym:2:mpr 7:lost:1" || code != impl.OK {
		t.Errorf("HelloNow %q, %d", text, code)
	}
	x, tc, code := impl.TcNow(r)
	if text, _ := impl.TcText(tc); text != "ansn 10 valid 15 2:7 5:258" || code != impl.OK {
		t.Errorf("TcNow %q, %d", text, code)
	}
	want := plainRouter()
	want.Ansn, want.Last = 10, []impl.Edge{{To: 2, Metric: 7}, {To: 5, Metric: 258}}
	if !sameRouter(x, want) {
		t.Errorf("TcNow left %v", x)
	}
	lines, code := impl.RouterText(r)
	if !slices.Equal(lines, []string{
		"2 sym 5 7", "4 heard 256 0", "5 sym 2 258", "7 lost 1 1",
		"2 by 2 cost 7 hops 1", "5 by 5 cost 258 hops 1", "6 by 2 cost 10 hops 2", "8 by 2 cost 268 hops 3",
	}) || code != impl.OK {
		t.Errorf("RouterText %q, %d", lines, code)
	}
	routes, code := impl.RouterRoutes(r)
	if want := routesAs([][4]int{{2, 2, 7, 1}, {5, 5, 258, 1}, {6, 2, 10, 2}, {8, 2, 268, 3}}); !slices.Equal(routes, want) || code != impl.OK {
		t.Errorf("RouterRoutes %v, %d", routes, code)
	}
	checkRouter(t, r)
}

// All links are told in a hello, whatever their status; relays alone have Mpr, and they are symmetric.
func TestPromise13HellosByStatus(t *testing.T) {
	for heard := 9; heard <= 11; heard++ {
		for sym := 9; sym <= 11; sym++ {
			for will := range 8 {
				for _, two := range [][]impl.Tuple{nil, keysTwo(204), keysTwo(204, 504)} {
					r := impl.Router{Addr: 1, Will: 1, Now: 10, Links: []impl.Link{{Addr: 2, Heard: heard, Sym: sym, In: 3, Out: 4, Will: will}, symLink(5)}, Two: two}
					h, code := impl.HelloNow(r)
					if x, _ := impl.NeighborOf(h, 2); code != impl.OK || x.Status != wantStatus(r.Links[0], 10) || x.Metric != 3 || x.Mpr && x.Status != 2 {
						t.Errorf("HelloNow(%v) = %v, %d", r, h, code)
					}
					checkRouter(t, r)
				}
			}
		}
	}
}

func TestPromise13RightRoutersAreAsked(t *testing.T) {
	for _, r := range rightRouters() {
		checkRouter(t, r)
	}
}

// Two-hop neighbors and links drawn close together have relays of all kinds.
func TestPromise13DrawnRoutersAreAsked(t *testing.T) {
	d := &draws{132}
	for range 1500 {
		checkRouter(t, d.router())
		r := withoutOwn(impl.Router{Addr: 1 + d.next(8), Will: d.next(8), Now: 10, Links: d.closeLinks(), Two: d.closeTwo()})
		for i := range r.Links {
			r.Links[i].Out = 1 + d.next(256)
		}
		checkRouter(t, r)
	}
}

// outRouter is 1 with a link to each address that pairs have, the Out behind it, symmetric until 20.
func outRouter(ansn int, last []impl.Edge, pairs ...int) impl.Router {
	return impl.Router{Addr: 1, Ansn: ansn, Now: 10, Links: outLinks(pairs...), Last: last}
}

func TestPromise13NumbersOfAdvertisementsByHand(t *testing.T) {
	edges := func(pairs ...int) []impl.Edge {
		var list []impl.Edge
		for i := 0; i < len(pairs); i += 2 {
			list = append(list, impl.Edge{To: pairs[i], Metric: pairs[i+1]})
		}
		return list
	}
	for _, c := range []struct {
		what string
		r    impl.Router
		want int
	}{
		{"nothing, as ahead", outRouter(7, nil), 7},
		{"nothing, as ahead, which was an empty list", outRouter(7, []impl.Edge{}), 7},
		{"a first one", outRouter(7, nil, 2, 5), 8},
		{"the same", outRouter(7, edges(2, 5), 2, 5), 7},
		{"the same of several", outRouter(7, edges(2, 5, 3, 6, 8, 7), 2, 5, 3, 6, 8, 7), 7},
		{"nothing any more", outRouter(7, edges(2, 5)), 8},
		{"another metric", outRouter(7, edges(2, 5), 2, 6), 8},
		{"another metric of the last", outRouter(7, edges(2, 5, 3, 6), 2, 5, 3, 7), 8},
		{"another address", outRouter(7, edges(2, 5), 3, 5), 8},
		{"one more", outRouter(7, edges(2, 5), 2, 5, 3, 6), 8},
		{"one less", outRouter(7, edges(2, 5, 3, 6), 2, 5), 8},
		{"the first one less", outRouter(7, edges(2, 5, 3, 6), 3, 6), 8},
		{"metrics changed over", outRouter(7, edges(2, 5, 3, 6), 2, 6, 3, 5), 8},
		{"the same with the greatest number", outRouter(65535, edges(2, 5), 2, 5), 65535},
		{"another one behind the greatest number", outRouter(65535, edges(2, 5), 2, 6), 0},
		{"another one ahead of the greatest number", outRouter(65534, edges(2, 5), 2, 6), 65535},
		{"the least number", outRouter(0, nil, 2, 5), 1},
	} {
		x, tc, code := impl.TcNow(c.r)
		if tc.Ansn != c.want || x.Ansn != c.want || code != impl.OK {
			t.Errorf("%s: %v, %v, %d, not %d", c.what, tc, x, code, c.want)
		}
		if !slices.Equal(tc.List, wantAdvertised(c.r)) || !slices.Equal(x.Last, tc.List) {
			t.Errorf("%s: %v, Last %v", c.what, tc, x.Last)
		}
		checkTcNow(t, c.r)
	}
}

// The same twice, another one, the same again: the number goes on with each that is not as the last one.
func TestPromise13NumbersOfAdvertisementsInTurn(t *testing.T) {
	r := outRouter(65533, nil)
	for i, c := range []struct{ out, want int }{{5, 65534}, {5, 65534}, {6, 65535}, {6, 65535}, {5, 0}, {5, 0}, {5, 0}, {6, 1}, {256, 2}, {toldMost, 3}, {toldMost, 3}} {
		r.Links = outLinks(2, c.out, 3, 9)
		x, tc, code := impl.TcNow(r)
		if tc.Ansn != c.want || code != impl.OK || tc.List[0].Metric != c.out || !slices.Equal(x.Last, tc.List) {
			t.Errorf("%d: %v, %v, %d, not %d", i, tc, x.Last, code, c.want)
		}
		r = x
	}
}

// What is not told in an advertisement changes no number: times, In and Will of links, and links that are not symmetric.
func TestPromise13WhatIsNotAdvertisedChangesNoNumber(t *testing.T) {
	r := outRouter(7, nil, 2, 5, 4, 6)
	r, _, _ = impl.TcNow(r)
	for _, change := range []func(r *impl.Router){
		func(r *impl.Router) { r.Now = 19 },
		func(r *impl.Router) { r.Links[0].Heard, r.Links[0].Sym = 11, 11 },
		func(r *impl.Router) { r.Links[0].In = 256 },
		func(r *impl.Router) { r.Links[0].Will = 0 },
		func(r *impl.Router) { r.Will, r.Seq, r.Errors = 7, 9, 99 },
		func(r *impl.Router) {
			r.Links = []impl.Link{r.Links[0], {Addr: 3, Heard: 20, Sym: 10, In: 1, Out: 9}, r.Links[1]}
		},
		func(r *impl.Router) {
			r.Links = []impl.Link{r.Links[0], {Addr: 3, Heard: 10, Sym: 20, In: 1, Out: 9}, r.Links[1]}
		},
		func(r *impl.Router) { r.Links = []impl.Link{r.Links[0], {Addr: 3, Heard: 20, In: 1}, r.Links[1]} },
		func(r *impl.Router) { r.Two, r.Selectors, r.Dups = keysTwo(203), plainSelectors(), plainMarks() },
		func(r *impl.Router) { r.Topology = loneTopology(2, 3) },
	} {
		x := clonedRouter(r)
		change(&x)
		if got, tc, code := impl.TcNow(x); tc.Ansn != r.Ansn || !sameRouter(got, x) || code != impl.OK {
			t.Errorf("TcNow(%v) = %v, %v, %d", x, got, tc, code)
		}
	}
	for _, change := range []func(r *impl.Router){
		func(r *impl.Router) { r.Now = 20 },
		func(r *impl.Router) { r.Links[0].Heard = 10 },
		func(r *impl.Router) { r.Links[1].Sym = 10 },
		func(r *impl.Router) { r.Links[1].Out = 7 },
		func(r *impl.Router) { r.Links = r.Links[1:] },
	} {
		x := clonedRouter(r)
		change(&x)
		if got, tc, code := impl.TcNow(x); tc.Ansn != r.Ansn+1 || got.Ansn != r.Ansn+1 || code != impl.OK {
			t.Errorf("TcNow(%v) = %v, %v, %d", x, got, tc, code)
		}
	}
}
