package tests

import (
	"fmt"
	"slices"
	"testing"

	"loop.example/g00419/impl"
)

// A netAnswer is all that a call on a net may answer. It keeps the routers' lists by themselves, too, so that they can
// be told when the list of routers is wiped.
type netAnswer struct {
	n       impl.Net
	routers []impl.Router
	number  int
	code    int
}

const routerLists = 7

// lists tells each list of an answer: costs, air, routers, then the lists of each router.
func (a netAnswer) lists() []string {
	numbers := ""
	for _, r := range a.n.Routers {
		numbers += fmt.Sprint(r.Addr, r.Will, r.Seq, r.Ansn, r.Now, r.Errors, ";")
	}
	list := []string{fmt.Sprint(a.n.Costs), fmt.Sprint(a.n.Air), numbers}
	for _, r := range a.routers {
		list = append(list, routerAnswer{r: r}.lists()[:routerLists]...)
	}
	return list
}

func (a netAnswer) numbers() string {
	return fmt.Sprint(a.n.Time, a.number, a.code)
}

// wipe writes over one list, and over the room behind its end, in the order of lists.
func (a netAnswer) wipe(i int) {
	switch i {
	case 0:
		clear(a.n.Costs[:cap(a.n.Costs)])
	case 1:
		clear(a.n.Air[:cap(a.n.Air)])
	case 2:
		clear(a.n.Routers[:cap(a.n.Routers)])
	default:
		routerAnswer{r: a.routers[(i-3)/routerLists]}.wipe((i - 3) % routerLists)
	}
}

func netAnswerOf(n impl.Net, code int) netAnswer {
	return netAnswer{n: n, routers: slices.Clone(n.Routers), code: code}
}

// netCalls has all calls on a net, with arguments for which it stays as it is, changes, or is answered with a code.
var netCalls = []struct {
	name string
	call func(n impl.Net, some []int, b []byte) netAnswer
}{
	{"NetOK", func(n impl.Net, some []int, b []byte) netAnswer {
		impl.NetOK(n)
		return netAnswer{}
	}},
	{"CostAt", func(n impl.Net, some []int, b []byte) (a netAnswer) {
		a.number, a.code = impl.CostAt(n, 1, 2)
		return a
	}},
	{"SetCost", func(n impl.Net, some []int, b []byte) netAnswer { return netAnswerOf(impl.SetCost(n, 1, 2, 77)) }},
	{"SetCost to what it is", func(n impl.Net, some []int, b []byte) netAnswer {
		cost, _ := impl.CostAt(n, 1, 2)
		return netAnswerOf(impl.SetCost(n, 1, 2, cost))
	}},
	{"SetCost of one to itself", func(n impl.Net, some []int, b []byte) netAnswer { return netAnswerOf(impl.SetCost(n, 1, 1, 7)) }},
	{"NetTick", func(n impl.Net, some []int, b []byte) netAnswer { return netAnswerOf(impl.NetTick(n, some)) }},
	{"NetTick without a loss", func(n impl.Net, some []int, b []byte) netAnswer { return netAnswerOf(impl.NetTick(n, nil)) }},
	{"NetTick with a wrong loss", func(n impl.Net, some []int, b []byte) netAnswer { return netAnswerOf(impl.NetTick(n, []int{2})) }},
	{"NetTicks, none", func(n impl.Net, some []int, b []byte) netAnswer { return netAnswerOf(impl.NetTicks(n, 0)) }},
	{"NetTicks, one", func(n impl.Net, some []int, b []byte) netAnswer { return netAnswerOf(impl.NetTicks(n, 1)) }},
	{"NetTicks, four", func(n impl.Net, some []int, b []byte) netAnswer { return netAnswerOf(impl.NetTicks(n, 4)) }},
	{"NetTicks, too many", func(n impl.Net, some []int, b []byte) netAnswer { return netAnswerOf(impl.NetTicks(n, 201)) }},
	{"Inject", func(n impl.Net, some []int, b []byte) netAnswer { return netAnswerOf(impl.Inject(n, 1, 2, b)) }},
	{"Inject of one to itself", func(n impl.Net, some []int, b []byte) netAnswer { return netAnswerOf(impl.Inject(n, 2, 2, b)) }},
	{"Restart", func(n impl.Net, some []int, b []byte) netAnswer { return netAnswerOf(impl.Restart(n, 1, 500)) }},
	{"Restart of none", func(n impl.Net, some []int, b []byte) netAnswer { return netAnswerOf(impl.Restart(n, 7, 500)) }},
	{"NewNet", func(n impl.Net, some []int, b []byte) netAnswer { return netAnswerOf(impl.NewNet(some, n.Costs)) }},
}

// A guardedNet stands, with all that it has and with numbers and bytes that calls are given, in the middle of greater
// arrays.
type guardedNet struct {
	n       impl.Net
	some    []int
	b       []byte
	lists   []guardedRouter
	routers []impl.Router
	costs   []int
	air     []impl.Frame
	numbers []int
	changed func() bool
}

const netMargin = 12

func guardNet(n impl.Net, some []int, bytes string) guardedNet {
	g := guardedNet{n: n}
	g.routers = make([]impl.Router, netMargin+len(n.Routers)+netMargin)
	for i := range g.routers {
		g.routers[i] = impl.Router{Addr: -7, Will: -8, Seq: -9, Ansn: -10, Now: -11, Errors: -12}
	}
	for i, r := range n.Routers {
		x := guardRouter(r, "")
		g.lists = append(g.lists, x)
		g.routers[netMargin+i] = x.r
	}
	g.n.Routers = g.routers[netMargin : netMargin+len(n.Routers)]
	g.n.Costs, g.costs = guardedRelays(n.Costs)
	g.air = slices.Repeat([]impl.Frame{{From: -7, To: -8, At: -9, Bytes: "room"}}, netMargin+len(n.Air)+netMargin)
	copy(g.air[netMargin:], n.Air)
	g.n.Air = g.air[netMargin : netMargin+len(n.Air)]
	g.some, g.numbers = guardedRelays(some)
	g.b, g.changed = guarded([]byte(bytes))
	return g
}

func (g guardedNet) kept() guardedNet {
	k := guardedNet{
		b: slices.Clone(g.b), routers: slices.Clone(g.routers), costs: slices.Clone(g.costs),
		air: slices.Clone(g.air), numbers: slices.Clone(g.numbers),
	}
	for _, x := range g.lists {
		k.lists = append(k.lists, x.kept())
	}
	return k
}

func (g guardedNet) isAs(k guardedNet) bool {
	for i, x := range g.lists {
		if !x.isAs(k.lists[i]) {
			return false
		}
	}
	return slices.EqualFunc(g.routers, k.routers, sameRouter) && slices.Equal(g.costs, k.costs) &&
		slices.Equal(g.air, k.air) && slices.Equal(g.numbers, k.numbers) && !g.changed()
}

func (g guardedNet) wipe() {
	for _, x := range g.lists {
		x.wipe()
	}
	clear(g.routers)
	clear(g.costs)
	clear(g.air)
	clear(g.numbers)
	clear(g.b)
}

func (g guardedNet) restore(k guardedNet) {
	for i, x := range g.lists {
		x.restore(k.lists[i])
	}
	copy(g.routers, k.routers)
	copy(g.costs, k.costs)
	copy(g.air, k.air)
	copy(g.numbers, k.numbers)
	copy(g.b, k.b)
}

// memoryNets are at their beginning, have run, are at their end, full, empty, and wrong.
func memoryNets() []impl.Net {
	ran := lineNet(4)
	for range 30 {
		ran = wantNetTick(ran, nil)
	}
	late := clonedNet(ran)
	late.Time = maxTick
	for i := range late.Air {
		late.Air[i].At = maxTick
	}
	var list []impl.Net
	for _, c := range edgeNets() {
		list = append(list, c.n)
	}
	wrong := clonedNet(ran)
	wrong.Costs[0] = 1
	return append(list, meshNet(1), meshNet(2), ran, late, relayNet(2), passingNet(), fullPassing(maxAir), fullPassing(30), wrong, impl.Net{})
}

var memoryLosses = [][]int{nil, {0}, {1}, {0, 1, 0}, {3, 0, 7}}

func TestPromise1NetsStayAsTheyWere(t *testing.T) {
	for _, given := range memoryNets() {
		for _, some := range memoryLosses {
			for _, bytes := range []string{"", "zz", packetBytes([]impl.Message{helloFrom(1)})} {
				g := guardNet(given, some, bytes)
				before := g.kept()
				for _, c := range netCalls {
					c.call(g.n, g.some, g.b)
					if !g.isAs(before) {
						t.Fatalf("%s wrote into its net, or around it, or into its numbers or bytes: %s", c.name, briefNet(given))
					}
				}
			}
		}
	}
}

// What is answered as it was, with ErrEnd or ErrFull, is new memory, too.
func TestPromise1NetsThatAreAnsweredAreNewMemory(t *testing.T) {
	for _, given := range memoryNets() {
		for _, some := range memoryLosses {
			for _, c := range netCalls {
				g := guardNet(given, some, "some bytes")
				checkNewMemory(t, c.name+" of "+briefNet(given), g, func() answer { return c.call(g.n, g.some, g.b) })
			}
		}
	}
}

func TestPromise1ListsOfOneNetShareNoMemory(t *testing.T) {
	for _, given := range memoryNets() {
		for _, c := range netCalls {
			checkSharesNone(t, c.name+" of "+briefNet(given), func() answer { return c.call(given, []int{0, 1}, []byte("zz")) })
		}
	}
}

func TestPromise1NetsAreAlikeAtEachCall(t *testing.T) {
	d := &draws{142}
	wrongs := someWrongNets()
	for i := range 100 {
		n, wrong := d.busyNet(d.next(maxAir+1)), wrongs[i%len(wrongs)].n
		lose := []int{d.next(2), d.next(2), d.next(2)}
		for range 3 {
			checkNetTick(t, "a busy one", n, lose)
			checkNetTicks(t, "a busy one", n, 3)
			impl.NetTick(wrong, lose)
			impl.NetTicks(wrong, 9)
			impl.NetTick(n, []int{2})
			impl.SetCost(n, 1, 2, 256)
			impl.Restart(n, 2, 9)
			impl.Inject(n, 2, 1, []byte("zz"))
			impl.NewNet(nil, nil)
		}
	}
}

func TestPromise1NetCallsAtOnceAnswerAlike(t *testing.T) {
	n, lose := fullPassing(60), []int{0, 0, 1}
	ticked := wantNetTick(n, lose)
	ran := wantNetTick(wantNetTick(wantNetTick(n, nil), nil), nil)
	injected, _ := wantInject(n, 1, 2, "zz")
	checkAtOnce(t, 30, func() bool {
		x, _ := impl.NetTick(n, lose)
		y, _ := impl.NetTicks(n, 3)
		z, _ := impl.Inject(n, 1, 2, []byte("zz"))
		return sameNet(x, ticked) && sameNet(y, ran) && sameNet(z, injected)
	})
}

// What a call began is at its end when it answers: nothing of it is left, whatever the call was given.
func TestPromise1NetCallsLeaveNothingRunning(t *testing.T) {
	checkLeavesNothingRunning(t, func() {
		for _, given := range memoryNets() {
			for _, c := range netCalls {
				c.call(given, []int{0, 1}, []byte("zz"))
			}
		}
	})
}
