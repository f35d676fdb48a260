package tests

import (
	"fmt"
	"slices"
	"testing"

	"loop.example/g00419/impl"
)

// A routerAnswer is all that a call on a router may answer.
type routerAnswer struct {
	r      impl.Router
	h      impl.Hello
	tc     impl.Tc
	b      []byte
	routes []impl.Route
	lines  []string
	code   int
}

// lists tells each list of an answer.
func (a routerAnswer) lists() []string {
	return []string{
		fmt.Sprint(a.r.Links), fmt.Sprint(a.r.Two), fmt.Sprint(a.r.Selectors), fmt.Sprint(a.r.Dups),
		fmt.Sprint(a.r.Topology.Sources), fmt.Sprint(a.r.Topology.Edges), fmt.Sprint(a.r.Last),
		fmt.Sprint(a.h.List), fmt.Sprint(a.tc.List), fmt.Sprint(a.b), fmt.Sprint(a.routes), fmt.Sprint(a.lines),
	}
}

// numbers tells all else.
func (a routerAnswer) numbers() string {
	return fmt.Sprint(a.r.Addr, a.r.Will, a.r.Seq, a.r.Ansn, a.r.Now, a.r.Errors, a.h.Will, a.h.Valid, a.tc.Ansn, a.tc.Valid, a.code)
}

// wipe writes over one list, and over the room behind its end, in the order of lists.
func (a routerAnswer) wipe(i int) {
	[]func(){
		func() { clear(a.r.Links[:cap(a.r.Links)]) },
		func() { clear(a.r.Two[:cap(a.r.Two)]) },
		func() { clear(a.r.Selectors[:cap(a.r.Selectors)]) },
		func() { clear(a.r.Dups[:cap(a.r.Dups)]) },
		func() { clear(a.r.Topology.Sources[:cap(a.r.Topology.Sources)]) },
		func() { clear(a.r.Topology.Edges[:cap(a.r.Topology.Edges)]) },
		func() { clear(a.r.Last[:cap(a.r.Last)]) },
		func() { clear(a.h.List[:cap(a.h.List)]) },
		func() { clear(a.tc.List[:cap(a.tc.List)]) },
		func() { clear(a.b[:cap(a.b)]) },
		func() { clear(a.routes[:cap(a.routes)]) },
		func() { clear(a.lines[:cap(a.lines)]) },
	}[i]()
}

type routerCall struct {
	name string
	call func(r impl.Router, b []byte) routerAnswer
}

func hearAnswer(r impl.Router, from, cost int, b []byte) routerAnswer {
	var a routerAnswer
	a.r, a.b, a.code = impl.RouterHear(r, from, cost, b)
	return a
}

// routerCalls has all calls on a router, with arguments for which it stays as it is, or not.
var routerCalls = []routerCall{
	{"RouterTick", func(r impl.Router, b []byte) (a routerAnswer) {
		a.r, a.b, a.code = impl.RouterTick(r)
		return a
	}},
	{"RouterTick at another time", func(r impl.Router, b []byte) (a routerAnswer) {
		r.Now++
		a.r, a.b, a.code = impl.RouterTick(r)
		return a
	}},
	{"RouterTick at the greatest time", func(r impl.Router, b []byte) (a routerAnswer) {
		r.Now = maxTick
		a.r, a.b, a.code = impl.RouterTick(r)
		return a
	}},
	{"HelloNow", func(r impl.Router, b []byte) (a routerAnswer) {
		a.h, a.code = impl.HelloNow(r)
		return a
	}},
	{"TcNow", func(r impl.Router, b []byte) (a routerAnswer) {
		a.r, a.tc, a.code = impl.TcNow(r)
		return a
	}},
	{"RouterRoutes", func(r impl.Router, b []byte) (a routerAnswer) {
		a.routes, a.code = impl.RouterRoutes(r)
		return a
	}},
	{"RouterText", func(r impl.Router, b []byte) (a routerAnswer) {
		a.lines, a.code = impl.RouterText(r)
		return a
	}},
	{"RouterHear from 2", func(r impl.Router, b []byte) routerAnswer { return hearAnswer(r, 2, 20, b) }},
	{"RouterHear from 3", func(r impl.Router, b []byte) routerAnswer { return hearAnswer(r, 3, 20, b) }},
	{"RouterHear from 8", func(r impl.Router, b []byte) routerAnswer { return hearAnswer(r, 8, 20, b) }},
	{"RouterHear from us", func(r impl.Router, b []byte) routerAnswer { return hearAnswer(r, r.Addr, 20, b) }},
	{"RouterHear from nobody", func(r impl.Router, b []byte) routerAnswer { return hearAnswer(r, 9, 20, b) }},
	{"RouterHear with a wrong cost", func(r impl.Router, b []byte) routerAnswer { return hearAnswer(r, 2, 0, b) }},
}

// A guardedRouter stands, and hears bytes that stand, in the middle of greater arrays.
type guardedRouter struct {
	r         impl.Router
	links     []impl.Link
	two       []impl.Tuple
	selectors []impl.Tuple
	dups      []impl.Tuple
	top       guardedTopology
	b         []byte
	changed   func() bool
}

// The topology's advertisement stands in for the router's Last, which is such a list.
func guardRouter(r impl.Router, bytes string) guardedRouter {
	g := guardedRouter{r: r}
	g.r.Links, g.links = guardedLinks(r.Links)
	g.r.Two, g.two = guardedSet(r.Two)
	g.r.Selectors, g.selectors = guardedSet(r.Selectors)
	g.r.Dups, g.dups = guardedSet(r.Dups)
	g.top = guardTopology(r.Topology, impl.Tc{List: r.Last})
	g.r.Topology, g.r.Last = g.top.top, g.top.x.List
	g.b, g.changed = guarded([]byte(bytes))
	return g
}

func (g guardedRouter) kept() guardedRouter {
	return guardedRouter{
		links: slices.Clone(g.links), two: slices.Clone(g.two), selectors: slices.Clone(g.selectors), dups: slices.Clone(g.dups),
		top: g.top.kept(), b: slices.Clone(g.b),
	}
}

func (g guardedRouter) isAs(k guardedRouter) bool {
	return slices.Equal(g.links, k.links) && slices.Equal(g.two, k.two) && slices.Equal(g.selectors, k.selectors) &&
		slices.Equal(g.dups, k.dups) && g.top.isAs(k.top) && !g.changed()
}

func (g guardedRouter) wipe() {
	clear(g.links)
	clear(g.two)
	clear(g.selectors)
	clear(g.dups)
	g.top.wipe()
	clear(g.b)
}

func (g guardedRouter) restore(k guardedRouter) {
	copy(g.links, k.links)
	copy(g.two, k.two)
	copy(g.selectors, k.selectors)
	copy(g.dups, k.dups)
	g.top.restore(k.top)
	copy(g.b, k.b)
}

func memoryRouters() []impl.Router {
	same := hearer()
	same.Last = wantAdvertised(same)
	return []impl.Router{
		{Addr: 1}, hearer(), same, plainRouter(), fullRouter(1), fullRouter(8), ownRouters()[0],
		{Addr: 1, Links: linksOf(2, 3), Dups: longList(impl.MaxList + 1)}, {Addr: 1, Selectors: fullSet(), Last: edgesTo(2, 1)},
	}
}

func memoryPackets() []string {
	hello := helloFrom(2, mprNeighbor(1, 40), symNeighbor(3, 4), symNeighbor(6, 30))
	lost := helloFrom(2, impl.Neighbor{Addr: 1, Metric: 40})
	var list []string
	for _, x := range [][]impl.Message{
		{hello}, {lost}, {helloFrom(3)}, {tcFrom(6, 4, edgesTo(1, 7)...)}, {tcFrom(6, 2)}, {tcFrom(1, 4), tcFrom(8, 4)},
		{hello, tcFrom(6, 4, edgesTo(1, 7)...), tcFrom(5, 4, edgesTo(3)...), lost, tcFrom(5, 5), helloFrom(8)},
	} {
		list = append(list, packetBytes(x))
	}
	return append(list, "", "x", list[0][1:])
}

func TestPromise1RoutersStayAsTheyWere(t *testing.T) {
	for _, given := range memoryRouters() {
		for _, bytes := range memoryPackets() {
			g := guardRouter(given, bytes)
			before := g.kept()
			impl.RouterOK(g.r)
			for _, c := range routerCalls {
				c.call(g.r, g.b)
				if !g.isAs(before) {
					t.Fatalf("%s of %s wrote into it, or around it, or into its bytes", c.name, briefRouter(given))
				}
			}
		}
	}
}

// What is answered as it was (with ErrSelf), or with a code (with ErrForm), is new memory, too.
func TestPromise1RoutersThatAreAnsweredAreNewMemory(t *testing.T) {
	for _, given := range memoryRouters() {
		for _, bytes := range memoryPackets() {
			for _, c := range routerCalls {
				g := guardRouter(given, bytes)
				checkNewMemory(t, c.name+" of "+briefRouter(given), g, func() answer { return c.call(g.r, g.b) })
			}
		}
	}
}

func TestPromise1ListsOfOneRouterShareNoMemory(t *testing.T) {
	for _, given := range memoryRouters() {
		for _, bytes := range memoryPackets() {
			for _, c := range routerCalls {
				checkSharesNone(t, c.name+" of "+briefRouter(given), func() answer { return c.call(given, []byte(bytes)) })
			}
		}
	}
}

func TestPromise1RoutersAreAlikeAtEachCall(t *testing.T) {
	d := &draws{138}
	wrongs := wrongRouters()
	for i := range 300 {
		r := d.router()
		from := 1 + (r.Addr+d.next(7))%8
		list := []impl.Message{d.heardBy(r, from), d.heardBy(r, from)}
		for range 2 {
			checkRouter(t, r)
			checkTick(t, r)
			checkHearing(t, r, from, 20, list...)
			checkNoPacketHeard(t, r, from, 20, nil)
			impl.RouterTick(wrongs[i%len(wrongs)])
			impl.RouterHear(wrongs[i%len(wrongs)], from, 20, nil)
			impl.RouterHear(r, r.Addr, 20, nil)
			impl.RouterHear(r, from, 0, nil)
			impl.TcNow(fullRouter(3))
			impl.NewRouter(9, 9, 9)
		}
	}
}

func TestPromise1RouterCallsAtOnceAnswerAlike(t *testing.T) {
	r, list := hearer(), []impl.Message{helloFrom(4, mprNeighbor(1, 40)), tcFrom(6, 4, edgesTo(7)...)}
	b := []byte(packetBytes(list))
	heard, out := wantHearing(r, 4, 20, list)
	ticked, due := wantTicked(r)
	lines := wantRouterText(r)
	done := make(chan bool)
	for range 8 {
		go func() {
			right := true
			for range 200 {
				x, passed, _ := impl.RouterHear(r, 4, 20, b)
				y, sent, _ := impl.RouterTick(r)
				text, _ := impl.RouterText(r)
				right = right && sameRouter(x, heard) && string(passed) == wantPacket(out) && sameRouter(y, ticked) && string(sent) == wantPacket(due) && slices.Equal(text, lines)
			}
			done <- right
		}()
	}
	for range 8 {
		if !<-done {
			t.Error("calls at once answer otherwise")
		}
	}
}
