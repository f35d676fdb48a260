package tests

import (
	"slices"
	"strconv"
	"testing"

	"loop.example/g00419/impl"
)

// A netAudit has what is asked of a right net, reckoned from its costs and from all ways that its routers know. Where
// there is no way, or no route, a number is 0; each to itself is 0, too.
type netAudit struct {
	size int
	cost [9][9]int
	ways [9][9]impl.Route
}

// auditOf reckons distances by letting each router in turn be on the way of all others.
func auditOf(n impl.Net) netAudit {
	w := netAudit{size: len(n.Routers)}
	for a := 1; a <= w.size; a++ {
		for b := 1; b <= w.size; b++ {
			if costIn(n, b, a) > 0 {
				w.cost[a][b] = costIn(n, a, b)
			}
		}
	}
	for by := 1; by <= w.size; by++ {
		for a := 1; a <= w.size; a++ {
			for b := 1; b <= w.size; b++ {
				over := w.cost[a][by] + w.cost[by][b]
				if a == b || w.cost[a][by] == 0 || w.cost[by][b] == 0 {
					continue
				}
				if w.cost[a][b] == 0 || over < w.cost[a][b] {
					w.cost[a][b] = over
				}
			}
		}
	}
	for _, r := range n.Routers {
		w.ways[r.Addr] = wantWays(wantGraphOf(r.Addr, r.Links, r.Topology, r.Now), r.Addr)
	}
	return w
}

func (w netAudit) distance(a, b int) (int, int) {
	if a != b && w.cost[a][b] == 0 {
		return 0, impl.ErrNone
	}
	return w.cost[a][b], impl.OK
}

func (w netAudit) converged() bool {
	for a := 1; a <= w.size; a++ {
		for b := 1; b <= 8; b++ {
			if w.ways[a][b].Cost != w.cost[a][b] {
				return false
			}
		}
	}
	return true
}

func (w netAudit) walk(a, b int) ([]int, int) {
	list := []int{a}
	for a != b {
		if len(list) == w.size+1 {
			return list, impl.ErrLoop
		}
		a = w.ways[a][b].Next
		if a == 0 || a > w.size {
			return list, impl.ErrNone
		}
		list = append(list, a)
	}
	return list, impl.OK
}

func checkDistance(t *testing.T, what string, n impl.Net, a, b, want, wantCode int) {
	t.Helper()
	if got, code := impl.TrueDistance(n, a, b); got != want || code != wantCode {
		t.Fatalf("TrueDistance of %s from %d to %d = %d, %d, not %d, %d: %s", what, a, b, got, code, want, wantCode, briefNet(n))
	}
}

func checkConverged(t *testing.T, what string, n impl.Net, want bool) {
	t.Helper()
	if got, code := impl.Converged(n); got != want || code != impl.OK {
		t.Fatalf("Converged of %s at %d = %v, %d, not %v: %s", what, n.Time, got, code, want, briefNet(n))
	}
}

func checkWalk(t *testing.T, what string, n impl.Net, a, b int, want []int, wantCode int) {
	t.Helper()
	if got, code := impl.Walk(n, a, b); !slices.Equal(got, want) || code != wantCode {
		t.Fatalf("Walk of %s from %d to %d = %v, %d, not %v, %d: %s", what, a, b, got, code, want, wantCode, briefNet(n))
	}
}

func checkCount(t *testing.T, what string, n impl.Net, origin, seq, want int) {
	t.Helper()
	if got, code := impl.CountMarks(n, origin, seq); got != want || code != impl.OK {
		t.Fatalf("CountMarks of %s, %d, %d = %d, %d, not %d: %s", what, origin, seq, got, code, want, briefNet(n))
	}
}

// checkMarks asks for each mark that a router has, for those beside it, and for the least and the greatest one.
func checkMarks(t *testing.T, what string, n impl.Net) {
	t.Helper()
	keys := []int{65536, 8*65536 + 65535}
	has := map[int]int{}
	for _, r := range n.Routers {
		for _, x := range r.Dups {
			has[x.Key]++
			keys = append(keys, x.Key-1, x.Key, x.Key+1, x.Key-65536, x.Key+65536)
		}
	}
	slices.Sort(keys)
	for _, key := range slices.Compact(keys) {
		if origin := key / 65536; 1 <= origin && origin <= 8 {
			checkCount(t, what, n, origin, key%65536, has[key])
		}
	}
}

// checkAudit holds all that is asked of a right net against what auditOf reckons. Relays always cover.
func checkAudit(t *testing.T, what string, n impl.Net) {
	t.Helper()
	w := auditOf(n)
	for a := 1; a <= w.size; a++ {
		for b := 1; b <= w.size; b++ {
			cost, code := w.distance(a, b)
			checkDistance(t, what, n, a, b, cost, code)
			list, code := w.walk(a, b)
			checkWalk(t, what, n, a, b, list, code)
		}
	}
	checkConverged(t, what, n, w.converged())
	checkCover(t, what, n)
	checkMarks(t, what, n)
	checkErrors(t, what, n)
}

func checkCover(t *testing.T, what string, n impl.Net) {
	t.Helper()
	for _, r := range n.Routers {
		if left := wantLeft(r.Two, r.Links, r.Addr, r.Now, wantFlood(r.Two, r.Links, r.Addr, r.Now)); len(left) > 0 {
			t.Fatalf("relays of %d in %s don't reach %v", r.Addr, what, left)
		}
	}
	if ok, code := impl.AllCover(n); !ok || code != impl.OK {
		t.Fatalf("AllCover of %s at %d = %v, %d: %s", what, n.Time, ok, code, briefNet(n))
	}
}

func checkErrors(t *testing.T, what string, n impl.Net) {
	t.Helper()
	var want []int
	for _, r := range n.Routers {
		want = append(want, r.Errors)
	}
	if got, code := impl.ErrorsOf(n); !slices.Equal(got, want) || code != impl.OK {
		t.Fatalf("ErrorsOf of %s = %v, %d, not %v", what, got, code, want)
	}
}

// linkTo is symmetric until 40, and costs that much in either direction.
func linkTo(addr, cost int) impl.Link {
	return impl.Link{Addr: addr, Heard: 40, Sym: 40, In: cost, Out: cost, Will: 3}
}

// knowing makes it known to a router until 40 that there is this edge.
func knowing(r *impl.Router, from, to, cost int) {
	if _, there := sourceAt(r.Topology, from); !there {
		r.Topology.Sources = append(r.Topology.Sources, impl.Source{Addr: from, Until: 40})
		slices.SortFunc(r.Topology.Sources, func(x, y impl.Source) int { return x.Addr - y.Addr })
	}
	r.Topology.Edges = wantPut(r.Topology.Edges, impl.Tuple{Key: 100*from + to, Until: 40, Value: cost})
}

// meeting makes a router know of a symmetric neighbor, in place of what it knew of it.
func meeting(r *impl.Router, addr, cost int) {
	r.Links = append(linksBut(r.Links, addr), linkTo(addr, cost))
	slices.SortFunc(r.Links, func(x, y impl.Link) int { return x.Addr - y.Addr })
}

// knowingNet is at tick 10, and each of its routers knows all ways in both directions: all costs of n are taken as they
// are, whether a router could hear of them or not.
func knowingNet(n impl.Net) impl.Net {
	n = clonedNet(n)
	n.Time = 10
	for i := range n.Routers {
		r := &n.Routers[i]
		r.Now = 10
		for a := 1; a <= len(n.Routers); a++ {
			for b := 1; b <= len(n.Routers); b++ {
				switch {
				case costIn(n, a, b) == 0 || costIn(n, b, a) == 0 || b == r.Addr:
				case a == r.Addr:
					meeting(r, b, costIn(n, a, b))
				default:
					knowing(r, a, b, costIn(n, a, b))
				}
			}
		}
	}
	return n
}

// bareNet is at tick 10, and its routers know nothing.
func bareNet(size int) impl.Net {
	n := silentNet(size)
	n.Time = 10
	for i := range n.Routers {
		n.Routers[i].Now = 10
	}
	return n
}

func TestPromise15RightNetsAreAudited(t *testing.T) {
	for _, c := range rightNets() {
		checkAudit(t, c.name, c.n)
	}
	for _, c := range beginnings() {
		checkAudit(t, c.name+", all known", knowingNet(c.n))
	}
}

func TestPromise15TrueDistancesByHand(t *testing.T) {
	none := -1
	for _, c := range []struct {
		what string
		n    impl.Net
		want []int
	}{
		{"one router", meshNet(1), []int{0}},
		{"two, one direction dearer", netWith(2, 0, 4, 6, 0), []int{0, 4, 6, 0}},
		{"two, the least and the greatest cost", netWith(2, 0, 1, 256, 0), []int{0, 1, 256, 0}},
		{"two, from 1 to 2 alone", netWith(2, 0, 4, 0, 0), []int{0, none, none, 0}},
		{"two, from 2 to 1 alone", netWith(2, 0, 0, 6, 0), []int{0, none, none, 0}},
		{"two, no way", silentNet(2), []int{0, none, none, 0}},
		{"three in a line", netWith(3, 0, 2, 0, 4, 0, 5, 0, 6, 0), []int{0, 2, 7, 4, 0, 5, 10, 6, 0}},
		{"a cheap way in one direction alone does not count", netWith(3, 0, 2, 1, 4, 0, 5, 0, 6, 0), []int{0, 2, 7, 4, 0, 5, 10, 6, 0}},
		{"nor does one in the other direction", netWith(3, 0, 2, 0, 4, 0, 5, 1, 6, 0), []int{0, 2, 7, 4, 0, 5, 10, 6, 0}},
		{"a dear way back makes a cheap one count", netWith(3, 0, 2, 1, 4, 0, 5, 256, 6, 0), []int{0, 2, 1, 4, 0, 5, 10, 6, 0}},
		{"a dear way against two cheap ones", netWith(3, 0, 1, 9, 1, 0, 1, 9, 1, 0), []int{0, 1, 2, 1, 0, 1, 2, 1, 0}},
		{"a tie", netWith(3, 0, 1, 2, 1, 0, 1, 2, 1, 0), []int{0, 1, 2, 1, 0, 1, 2, 1, 0}},
		{"a tie of two ways over others", netWith(4, 0, 1, 2, 0, 1, 0, 0, 2, 2, 0, 0, 1, 0, 2, 1, 0),
			[]int{0, 1, 2, 3, 1, 0, 3, 2, 2, 3, 0, 1, 3, 2, 1, 0}},
		{"round in one direction", roundNet(3), []int{0, none, none, none, 0, none, none, none, 0}},
		{"two parts", netWith(4, 0, 3, 0, 0, 5, 0, 0, 0, 0, 0, 0, 7, 0, 0, 8, 0),
			[]int{0, 3, none, none, 5, 0, none, none, none, none, 0, 7, none, none, 8, 0}},
		{"two parts, and a way in one direction between them", netWith(4, 0, 3, 0, 0, 5, 0, 1, 0, 0, 0, 0, 7, 0, 0, 8, 0),
			[]int{0, 3, none, none, 5, 0, none, none, none, none, 0, 7, none, none, 8, 0}},
	} {
		size := len(c.n.Routers)
		for a := 1; a <= size; a++ {
			for b := 1; b <= size; b++ {
				if want := c.want[(a-1)*size+b-1]; want == none {
					checkDistance(t, c.what, c.n, a, b, 0, impl.ErrNone)
				} else {
					checkDistance(t, c.what, c.n, a, b, want, impl.OK)
				}
			}
		}
	}
	long := netBy(6, func(a, b int) int {
		if a-b == 1 || b-a == 1 {
			return 256
		}
		return 0
	})
	checkDistance(t, "the longest line", long, 1, 6, 1280, impl.OK)
	checkDistance(t, "the longest line", long, 6, 1, 1280, impl.OK)
}

// The true graph hangs on the costs alone: not on what a router knows, on the air, or on the time.
func TestPromise15TrueDistancesAskTheCostsAlone(t *testing.T) {
	for _, c := range rightNets() {
		bare := netWith(len(c.n.Routers), c.n.Costs...)
		for a := range c.n.Routers {
			for b := range c.n.Routers {
				want, wantCode := impl.TrueDistance(bare, a+1, b+1)
				checkDistance(t, c.name, c.n, a+1, b+1, want, wantCode)
			}
		}
	}
}

// hasTrueWay says whether two routers at least hear each other.
func hasTrueWay(n impl.Net) bool {
	for a := range n.Routers {
		for b := range a {
			if costIn(n, a+1, b+1) > 0 && costIn(n, b+1, a+1) > 0 {
				return true
			}
		}
	}
	return false
}

// Where there is nothing to know, all is known at once; what there is must be heard of first.
func TestPromise15NetsAtTheirBeginning(t *testing.T) {
	for _, c := range beginnings() {
		checkConverged(t, c.name, c.n, !hasTrueWay(c.n))
		checkCover(t, c.name, c.n)
		for a := range c.n.Routers {
			for b := range c.n.Routers {
				if a == b {
					checkWalk(t, c.name, c.n, a+1, b+1, []int{a + 1}, impl.OK)
				} else {
					checkWalk(t, c.name, c.n, a+1, b+1, []int{a + 1}, impl.ErrNone)
				}
			}
		}
	}
}

func TestPromise15OneRouteThatIsNotTheTrueOne(t *testing.T) {
	for _, base := range []impl.Net{meshNet(2), lineNet(3), meshNet(4), lineNet(6)} {
		n := knowingNet(base)
		checkConverged(t, "all known", n, true)
		for i, r := range n.Routers {
			wrong := func(what string, change func(r *impl.Router)) {
				t.Helper()
				x := clonedNet(n)
				change(&x.Routers[i])
				if !impl.NetOK(x) {
					t.Fatalf("%s of %d: %s", what, r.Addr, briefNet(x))
				}
				checkConverged(t, what+" of "+strconv.Itoa(r.Addr), x, false)
				checkAudit(t, what, x)
			}
			wrong("nothing known", func(r *impl.Router) { r.Links, r.Topology = nil, impl.Topology{} })
			wrong("a neighbor that is none", func(r *impl.Router) { meeting(r, 8, 1) })
			wrong("a neighbor's neighbor that is none", func(r *impl.Router) { knowing(r, r.Links[0].Addr, 7, 1) })
			for j := range r.Links {
				wrong("a cost that is one more", func(r *impl.Router) { r.Links[j].Out++ })
				wrong("a cost that is one less", func(r *impl.Router) { r.Links[j].Out-- })
				wrong("a link that is heard alone", func(r *impl.Router) { r.Links[j].Sym = 10 })
				wrong("a link that is lost", func(r *impl.Router) { r.Links[j].Heard = 10 })
				wrong("a link that is not there", func(r *impl.Router) { r.Links = slices.Delete(r.Links, j, j+1) })
			}
		}
	}
}

// Each router has as many routes as it shall, at the same costs, but one of them to another address.
func TestPromise15ARouteToAnotherAtTheSameCost(t *testing.T) {
	base := netWith(3, 0, 5, 0, 5, 0, 0, 0, 0, 0)
	for _, addr := range []int{3, 8} {
		n := knowingNet(base)
		checkConverged(t, "two of three", n, true)
		n.Routers[0].Links = nil
		meeting(&n.Routers[0], addr, 5)
		checkConverged(t, "a route to "+strconv.Itoa(addr), n, false)
		checkAudit(t, "a route to "+strconv.Itoa(addr), n)
	}
}

// Of a route To and Cost are asked for alone: by whom it goes, and over how many, may be otherwise.
func TestPromise15RoutesByAnotherNeighborAtTheSameCost(t *testing.T) {
	n := knowingNet(netWith(3, 0, 2, 5, 2, 0, 3, 5, 3, 0))
	checkConverged(t, "a tie", n, true)
	checkWalk(t, "a tie", n, 1, 3, []int{1, 3}, impl.OK)
	n.Routers[0].Links = linksBut(n.Routers[0].Links, 3)
	checkConverged(t, "a tie, by 2", n, true)
	checkWalk(t, "a tie, by 2", n, 1, 3, []int{1, 2, 3}, impl.OK)
	n.Routers[1].Links[1].Out++
	checkConverged(t, "a tie, by 2, which knows otherwise", n, false)
	checkWalk(t, "a tie, by 2, which knows otherwise", n, 1, 3, []int{1, 2, 3}, impl.OK)
}

// What a router knows counts at its own time, which may be behind the net's.
func TestPromise15EachRouterHasATimeOfItsOwn(t *testing.T) {
	n := knowingNet(lineNet(3))
	n.Time = maxTick
	checkConverged(t, "at 10 each", n, true)
	for i := range n.Routers {
		x := clonedNet(n)
		x.Routers[i].Now = 39
		checkConverged(t, "one at 39", x, true)
		checkWalk(t, "one at 39", x, 1, 3, []int{1, 2, 3}, impl.OK)
		x.Routers[i].Now = 40
		checkConverged(t, "one at 40", x, false)
		checkWalk(t, "one at 40", x, 3, 1, []int{3, 2, 1}[:max(1, 3-i)], []int{impl.OK, impl.ErrNone, impl.ErrNone}[i])
		checkAudit(t, "one at 40", x)
	}
}

func TestPromise15WalksByHand(t *testing.T) {
	line, mesh := knowingNet(lineNet(6)), knowingNet(netBy(6, func(a, b int) int { return 256 }))
	for a := 1; a <= 6; a++ {
		checkWalk(t, "to itself", line, a, a, []int{a}, impl.OK)
		checkWalk(t, "to itself, nothing known", bareNet(6), a, a, []int{a}, impl.OK)
		for b := 1; b <= 6; b++ {
			var want []int
			for at := a; at != b; {
				want = append(want, at)
				if at < b {
					at++
				} else {
					at--
				}
			}
			checkWalk(t, "a line", line, a, b, append(want, b), impl.OK)
			if a != b {
				checkWalk(t, "each a neighbor of each", mesh, a, b, []int{a, b}, impl.OK)
				checkWalk(t, "nothing known", bareNet(6), a, b, []int{a}, impl.ErrNone)
			}
		}
	}
}

// Routers know what each of them knows: a walk goes on by the route of where it is, whatever was known ahead.
func TestPromise15WalksThatEndOnTheWay(t *testing.T) {
	n := bareNet(6)
	for i := range 5 {
		r := &n.Routers[i]
		meeting(r, i+2, 1)
		for addr := i + 2; addr < 6; addr++ {
			knowing(r, addr, addr+1, 1)
		}
	}
	checkWalk(t, "a chain", n, 1, 6, []int{1, 2, 3, 4, 5, 6}, impl.OK)
	checkWalk(t, "a chain", n, 6, 1, []int{6}, impl.ErrNone)
	for i := range 5 {
		x := clonedNet(n)
		x.Routers[i].Links, x.Routers[i].Topology = nil, impl.Topology{}
		checkWalk(t, "a chain that is cut", x, 1, 6, []int{1, 2, 3, 4, 5}[:i+1], impl.ErrNone)
		checkAudit(t, "a chain that is cut", x)
		// By 7 or 8, which are none of the net's, there is a route, but nobody who goes on.
		for _, addr := range []int{7, 8} {
			meeting(&x.Routers[i], addr, 1)
			knowing(&x.Routers[i], addr, 6, 1)
			checkWalk(t, "a chain that goes out of the net", x, 1, 6, []int{1, 2, 3, 4, 5}[:i+1], impl.ErrNone)
			checkAudit(t, "a chain that goes out of the net", x)
		}
	}
	// 1 knows of a way that leaves the net behind 2: at 2 the route of 2 counts.
	over := bareNet(3)
	meeting(&over.Routers[0], 2, 1)
	knowing(&over.Routers[0], 2, 8, 1)
	knowing(&over.Routers[0], 8, 3, 1)
	checkWalk(t, "behind the next one out of the net", over, 1, 3, []int{1, 2}, impl.ErrNone)
	meeting(&over.Routers[1], 3, 9)
	checkWalk(t, "the next one knows better", over, 1, 3, []int{1, 2, 3}, impl.OK)
}

// goingRound has routers that each take the next one of a round for a neighbor of b, which is not in it.
func goingRound(size, b int, round ...int) impl.Net {
	n := bareNet(size)
	for i, at := range round {
		next := round[(i+1)%len(round)]
		meeting(&n.Routers[at-1], next, 1)
		knowing(&n.Routers[at-1], next, b, 1)
	}
	return n
}

func TestPromise15WalksThatGoRound(t *testing.T) {
	for _, c := range []struct {
		what string
		n    impl.Net
		a, b int
		want []int
	}{
		{"two of three", goingRound(3, 3, 1, 2), 1, 3, []int{1, 2, 1, 2}},
		{"two of three, from the other", goingRound(3, 3, 1, 2), 2, 3, []int{2, 1, 2, 1}},
		{"the last two of three", goingRound(3, 1, 3, 2), 3, 1, []int{3, 2, 3, 2}},
		{"two of four", goingRound(4, 3, 4, 1), 4, 3, []int{4, 1, 4, 1, 4}},
		{"three of four", goingRound(4, 4, 1, 3, 2), 3, 4, []int{3, 2, 1, 3, 2}},
		{"two of six", goingRound(6, 1, 5, 6), 6, 1, []int{6, 5, 6, 5, 6, 5, 6}},
		{"five of six", goingRound(6, 6, 1, 2, 3, 4, 5), 1, 6, []int{1, 2, 3, 4, 5, 1, 2}},
		{"five of six, the other way", goingRound(6, 1, 6, 5, 4, 3, 2), 4, 1, []int{4, 3, 2, 6, 5, 4, 3}},
	} {
		checkWalk(t, c.what, c.n, c.a, c.b, c.want, impl.ErrLoop)
		checkWalk(t, c.what+", to where it begins", c.n, c.b, c.b, []int{c.b}, impl.OK)
		checkWalk(t, c.what+", from outside", c.n, c.b, c.a, []int{c.b}, impl.ErrNone)
		checkWalk(t, c.what+", to the next one", c.n, c.a, c.want[1], c.want[:2], impl.OK)
		checkAudit(t, c.what, c.n)
	}
	// A round to which a walk comes only on its way.
	n := goingRound(6, 6, 4, 5)
	for _, at := range []int{1, 2, 3} {
		meeting(&n.Routers[at-1], at+1, 1)
		knowing(&n.Routers[at-1], at+1, 6, 1)
	}
	checkWalk(t, "a round behind three", n, 1, 6, []int{1, 2, 3, 4, 5, 4, 5}, impl.ErrLoop)
	checkAudit(t, "a round behind three", n)
	// One that knows better ends it.
	meeting(&n.Routers[4], 6, 1)
	checkWalk(t, "a round that is no more", n, 1, 6, []int{1, 2, 3, 4, 5, 6}, impl.OK)
}

// A net's relays cover; others, whom nobody chose, don't.
func TestPromise15RelaysThatCoverAndThatDoNot(t *testing.T) {
	needed := 0
	for _, c := range beginnings() {
		n, _ := impl.NetTicks(c.n, 45)
		checkCover(t, c.name, n)
		for _, r := range n.Routers {
			relays, _ := impl.FloodMprs(r.Two, r.Links, r.Addr, r.Now)
			strict, _ := impl.StrictTwo(r.Two, r.Links, r.Addr, r.Now)
			if ok, code := impl.Covers(r.Two, r.Links, r.Addr, r.Now, nil); ok != (len(strict) == 0) || code != impl.OK {
				t.Errorf("%s: no relays of %d cover %v: %v, %d", c.name, r.Addr, strict, ok, code)
			}
			for i := range relays {
				fewer := slices.Delete(slices.Clone(relays), i, i+1)
				if ok, _ := impl.Covers(r.Two, r.Links, r.Addr, r.Now, fewer); ok != (len(wantLeft(r.Two, r.Links, r.Addr, r.Now, fewer)) == 0) {
					t.Errorf("%s: relays %v of %d cover %v: %v", c.name, fewer, r.Addr, strict, ok)
				} else if !ok {
					needed++
				}
			}
		}
	}
	if needed < 10 {
		t.Error("too few relays are needed to tell anything:", needed)
	}
}

// Whatever the routers know of links and of two hops, they choose relays that cover.
func TestPromise15RelaysOfAnyRoutersCover(t *testing.T) {
	d := &draws{151}
	strict := 0
	for range 400 {
		n := bareNet(1 + d.next(6))
		for i := range n.Routers {
			r := &n.Routers[i]
			r.Links, r.Two = d.closeLinks(), d.closeTwo()
			for j := range r.Links {
				r.Links[j].Out = r.Links[j].In
			}
			*r = withoutOwn(*r)
			strict += len(wantStrict(r.Two, r.Links, r.Addr, r.Now))
		}
		checkCover(t, "a drawn one", n)
	}
	if strict < 100 {
		t.Error("too few two hops away to tell anything:", strict)
	}
}

func TestPromise15MarksByHand(t *testing.T) {
	n := bareNet(4)
	mark := func(addr, origin, seq, until, value int) {
		r := &n.Routers[addr-1]
		r.Dups = wantPut(r.Dups, impl.Tuple{Key: 65536*origin + seq, Until: until, Value: value})
	}
	checkCount(t, "no marks", n, 1, 0, 0)
	mark(1, 3, 5, 40, 1)
	checkCount(t, "the first alone, passed on", n, 3, 5, 1)
	mark(4, 3, 5, 40, 0)
	checkCount(t, "and the last, not passed on", n, 3, 5, 2)
	mark(2, 3, 5, 10, 0)
	checkCount(t, "and one whose time is over", n, 3, 5, 3)
	mark(3, 3, 5, 0, 1)
	checkCount(t, "and one whose time was over at the beginning, by who sent it", n, 3, 5, 4)
	// Other marks are others: of another origin, of another number, and both.
	for _, c := range [][2]int{{3, 4}, {3, 6}, {2, 5}, {4, 5}, {5, 3}, {1, 0}, {8, 65535}, {2, 65535}, {4, 0}} {
		checkCount(t, "another one", n, c[0], c[1], 0)
	}
	// The least and the greatest that there can be, of origins that are none of the net's too.
	for i, c := range [][2]int{{1, 0}, {1, 65535}, {2, 0}, {7, 1}, {8, 0}, {8, 65535}} {
		mark(1+i%4, c[0], c[1], 40, i%2)
		checkCount(t, "at an edge", n, c[0], c[1], 1)
		mark(1+(i+1)%4, c[0], c[1], 9, i%2)
		checkCount(t, "at an edge, twice", n, c[0], c[1], 2)
		checkMarks(t, "at an edge", n)
	}
	checkCount(t, "one among others", n, 3, 5, 4)
}

// A mark is the same whatever its time and its value are.
func TestPromise15MarksOfAnyTimeAndValue(t *testing.T) {
	for _, until := range []int{0, 1, 9, 10, 11, 40, maxTick, maxTime} {
		for _, value := range []int{0, 1, 2, maxTime} {
			for _, now := range []int{0, 10, maxTick} {
				n := bareNet(2)
				n.Time, n.Routers[0].Now, n.Routers[1].Now = maxTick, now, maxTick
				n.Routers[0].Dups = []impl.Tuple{{Key: 65536*2 + 9, Until: until, Value: value}}
				checkCount(t, "one router's", n, 2, 9, 1)
				n.Routers[1].Dups = []impl.Tuple{{Key: 65536*2 + 9}}
				checkCount(t, "both", n, 2, 9, 2)
			}
		}
	}
}

func TestPromise15MarksOfFullSets(t *testing.T) {
	for _, set := range [][]impl.Tuple{fullMarks(), plainMarks(), edgeMarks(), strayMarks(), fullSet(), edgeSet()} {
		for size := 1; size <= 6; size++ {
			n := bareNet(size)
			for i := range n.Routers {
				n.Routers[i].Dups = set
				checkMarks(t, "full sets", n)
			}
		}
	}
}

// An advertisement is marked by each that hears it, tick by tick, but by who sent it.
func TestPromise15MarksOfWhatGoesThroughANet(t *testing.T) {
	n, _ := impl.NetTicks(lineNet(5), 40)
	// At 44 router 1 sends an advertisement, as 44 + 1 is a multiple of five.
	n, _ = impl.NetTicks(n, 3)
	seq := n.Routers[0].Seq
	n, _ = impl.NetTick(n, nil)
	for hops := range 7 {
		checkCount(t, "a line, behind "+strconv.Itoa(hops)+" ticks", n, 1, seq, min(hops, 4))
		n, _ = impl.NetTick(n, nil)
	}
	// It was passed on by 2, 3 and 4; 5 has nobody behind it.
	for i, want := range []int{0, 1, 1, 1, 0} {
		if seen, sent, _ := impl.DupSeen(n.Routers[i].Dups, 1, seq, n.Time); seen != (i > 0) || sent != (want == 1) {
			t.Errorf("%d has seen it: %v, passed it on: %v", i+1, seen, sent)
		}
	}
	// 2 heard it when its own time was 44: its mark goes at 74, the others' one tick later each.
	n, _ = impl.NetTicks(n, 19)
	for at := n.Time; at < 80; at++ {
		checkCount(t, "a line at "+strconv.Itoa(at), n, 1, seq, min(4, max(0, 77-at)))
		n, _ = impl.NetTick(n, nil)
	}
}

func TestPromise15ErrorsByHand(t *testing.T) {
	n := bareNet(6)
	for i, errors := range []int{0, 1, 7, maxErrors - 1, maxErrors, 3} {
		n.Routers[i].Errors = errors
	}
	if list, code := impl.ErrorsOf(n); !slices.Equal(list, []int{0, 1, 7, maxErrors - 1, maxErrors, 3}) || code != impl.OK {
		t.Error("six:", list, code)
	}
	for size := 1; size <= 6; size++ {
		checkErrors(t, "none", silentNet(size))
	}
	n, _ = impl.NetTicks(meshNet(3), 20)
	for i, want := range [][]int{{0, 1, 0}, {0, 1, 1}, {0, 2, 1}, {1, 2, 1}} {
		to := []int{2, 3, 2, 1}[i]
		n, _ = impl.Inject(n, 1+to%3, to, []byte("x"))
		if list, code := impl.ErrorsOf(n); i == 0 && !slices.Equal(list, []int{0, 0, 0}) || code != impl.OK {
			t.Error("in the air:", list, code)
		}
		n, _ = impl.NetTick(n, nil)
		if list, code := impl.ErrorsOf(n); !slices.Equal(list, want) || code != impl.OK {
			t.Error("behind a tick:", list, code, "not", want)
		}
	}
}
