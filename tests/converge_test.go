package tests

import (
	"slices"
	"strconv"
	"testing"

	"loop.example/g00419/impl"
)

const (
	beginTicks = 45
	againTicks = 64
)

// checkTrue asks for what the theorem says: all routes are the true shortest ways, each walk ends where it shall, over
// routers that are not met twice, at the cost of the true distance; and relays cover.
func checkTrue(t *testing.T, what string, n impl.Net) {
	t.Helper()
	what += " at " + strconv.Itoa(n.Time)
	checkConverged(t, what, n, true)
	checkCover(t, what, n)
	for a := range n.Routers {
		for b := range n.Routers {
			checkTrueWalk(t, what, n, a+1, b+1)
		}
	}
}

func checkTrueWalk(t *testing.T, what string, n impl.Net, a, b int) {
	t.Helper()
	cost, wantCode := impl.TrueDistance(n, a, b)
	list, code := impl.Walk(n, a, b)
	end := b
	if wantCode == impl.ErrNone {
		end = a
	}
	if code != wantCode || len(list) == 0 || list[0] != a || list[len(list)-1] != end {
		t.Fatalf("%s: a walk from %d to %d: %v, %d, not %d: %s", what, a, b, list, code, wantCode, briefNet(n))
	}
	for i := 1; i < len(list); i++ {
		if slices.Contains(list[:i], list[i]) || costIn(n, list[i-1], list[i]) == 0 || costIn(n, list[i], list[i-1]) == 0 {
			t.Fatalf("%s: a walk from %d to %d: %v: %s", what, a, b, list, briefNet(n))
		}
		cost -= costIn(n, list[i-1], list[i])
	}
	if cost != 0 {
		t.Fatalf("%s: a walk from %d to %d: %v, the true distance is %d more: %s", what, a, b, list, cost, briefNet(n))
	}
}

// checkKeepsTrue asks for the theorem now, at the next two ticks, and later on.
func checkKeepsTrue(t *testing.T, what string, n impl.Net) {
	t.Helper()
	for _, more := range []int{0, 1, 1, 13, 40} {
		n = ticksOf(t, what, n, more)
		checkTrue(t, what, n)
	}
}

func ticksOf(t *testing.T, what string, n impl.Net, k int) impl.Net {
	t.Helper()
	n, code := impl.NetTicks(n, k)
	if code != impl.OK {
		t.Fatalf("%d NetTicks of %s: %d", k, what, code)
	}
	return n
}

// checkBegins runs a net from its beginning on.
func checkBegins(t *testing.T, what string, n impl.Net) {
	t.Helper()
	checkKeepsTrue(t, what, ticksOf(t, what, n, beginTicks))
}

// willing is a net of drawn costs, in both directions or not, with routers that all are willing.
func (d *draws) willing(size int) impl.Net {
	n := silentNet(size)
	d.ways(&n)
	most, both := []int{1, 2, 5, 256}[d.next(4)], d.next(2) == 0
	for a := range size {
		n.Routers[a].Will = 1 + d.next(7)
		for b := range size {
			if n.Costs[a*size+b] > 0 {
				n.Costs[a*size+b] = 1 + d.next(most)
				if both {
					n.Costs[b*size+a] = 1 + d.next(most)
				}
			}
		}
	}
	return n
}

// Tick by tick: from 45 on, and at 44, 46 and all others, what Converged says is what the routers know.
func TestPromise15FromTheBeginningOn(t *testing.T) {
	for _, c := range beginnings() {
		n := c.n
		for n.Time < 100 {
			checkAudit(t, c.name, n)
			if n.Time >= beginTicks {
				checkTrue(t, c.name, n)
			}
			n = ticksOf(t, c.name, n, 1)
		}
		n = ticksOf(t, c.name, n, maxTicks)
		checkTrue(t, c.name, n)
		checkAudit(t, c.name, n)
	}
}

// Two routers have heard each other at 4; of three in a line the middle one advertises both others at 8.
func TestPromise15WhenASmallNetHasConverged(t *testing.T) {
	for _, c := range []struct {
		what string
		n    impl.Net
		from int
	}{
		{"two", netWith(2, 0, 4, 6, 0), 4},
		{"two, no way", silentNet(2), 0},
		{"two, one way", netWith(2, 0, 4, 0, 0), 0},
		{"three in a line", lineNet(3), 9},
	} {
		n := c.n
		for n.Time < 60 {
			checkConverged(t, c.what, n, n.Time >= c.from)
			n = ticksOf(t, c.what, n, 1)
		}
	}
}

// All nets of three with three choices of each way.
func TestPromise15EachNetOfThree(t *testing.T) {
	for mix := range 3 * 3 * 3 * 3 * 3 * 3 {
		n := netBy(3, func(a, b int) int {
			cost := 4 * (mix % 3)
			if cost == 8 {
				cost = a + 2*b
			}
			mix /= 3
			return cost
		})
		checkBegins(t, "a net of three", n)
	}
}

// Four routers in each net that there can be of ways in both directions, which cost more in one of them.
func TestPromise15EachNetOfFour(t *testing.T) {
	d := &draws{152}
	for mix := range 1 << 6 {
		n := d.willing(4)
		for a := range 4 {
			for b := range a {
				n.Costs[4*a+b], n.Costs[4*b+a] = mix%2*(1+d.next(9)), mix%2*(1+d.next(9))
				mix /= 2
			}
		}
		checkBegins(t, "a net of four", n)
	}
}

func TestPromise15DrawnNetsFromTheBeginningOn(t *testing.T) {
	d := &draws{153}
	for range 40 {
		for size := 1; size <= maxRouters; size++ {
			checkBegins(t, "a drawn net", d.willing(size))
		}
	}
}

// Routers that are always, or hardly, willing; six of them in a line are the longest way.
func TestPromise15EachWillThatIsWilling(t *testing.T) {
	for will := 1; will <= 7; will++ {
		for _, base := range []impl.Net{lineNet(5), lineNet(6), meshNet(4), roundNet(4)} {
			n := clonedNet(base)
			for i := range n.Routers {
				n.Routers[i].Will = will
			}
			checkBegins(t, "will "+strconv.Itoa(will), n)
		}
	}
}

// Who is never willing passes nothing on: behind two of these nobody is heard of.
func TestPromise15RoutersThatAreNotWilling(t *testing.T) {
	n := lineNet(4)
	n.Routers[1].Will, n.Routers[2].Will = 0, 0
	for range 3 {
		n = ticksOf(t, "not willing", n, 50)
		checkAudit(t, "not willing", n)
		checkConverged(t, "not willing", n, false)
		checkDistance(t, "not willing", n, 1, 4, 12+23+34, impl.OK)
		checkWalk(t, "not willing", n, 1, 4, []int{1}, impl.ErrNone)
		checkWalk(t, "not willing", n, 1, 3, []int{1, 2, 3}, impl.OK)
	}
	d := &draws{154}
	for range 60 {
		n := d.willing(1 + d.next(6))
		for i := range n.Routers {
			n.Routers[i].Will *= d.next(2)
		}
		n = ticksOf(t, "some willing", n, beginTicks+d.next(30))
		checkAudit(t, "some willing", n)
	}
}

// A net in which all was lost for long knows nothing; 64 ticks later it knows all.
func TestPromise15WhatWasLost(t *testing.T) {
	for _, c := range beginnings() {
		if len(c.n.Routers) == 6 {
			continue
		}
		n := ticksOf(t, c.name, c.n, 50)
		for range 30 {
			n, _ = impl.NetTick(n, []int{1})
		}
		checkConverged(t, c.name, n, !hasTrueWay(n))
		checkAgain(t, c.name, n)
		for range 50 {
			n, _ = impl.NetTick(n, []int{0, 1, 1})
			checkCover(t, c.name, n)
		}
		checkAgain(t, c.name, n)
	}
}

// checkAgain runs a net of which something was lost, changed or begun anew.
func checkAgain(t *testing.T, what string, n impl.Net) {
	t.Helper()
	n = ticksOf(t, what, n, againTicks-1)
	checkAudit(t, what, n)
	checkKeepsTrue(t, what, ticksOf(t, what, n, 1))
}

// changed is a net that ran for 50 ticks, of which these ways, each from, to and cost, were changed then.
func changed(n impl.Net, triples ...int) impl.Net {
	n, _ = impl.NetTicks(n, 50)
	for i := 0; i < len(triples); i += 3 {
		n, _ = impl.SetCost(n, triples[i], triples[i+1], triples[i+2])
	}
	return n
}

func TestPromise15WhatWasChanged(t *testing.T) {
	for _, c := range []struct {
		what string
		n    impl.Net
		same bool
	}{
		{"a way costs more", changed(lineNet(5), 2, 3, 200), false},
		{"a way costs less", changed(lineNet(5), 3, 2, 1), false},
		{"a way is there no more", changed(lineNet(5), 2, 3, 0, 3, 2, 0), false},
		{"a way is there in one direction alone", changed(lineNet(5), 2, 3, 0), false},
		{"a way is there in the other direction alone", changed(lineNet(5), 3, 2, 0), false},
		{"a new way", changed(lineNet(5), 1, 5, 9, 5, 1, 8), false},
		{"a new way in one direction alone", changed(lineNet(5), 1, 5, 9), true},
		{"a new way that nobody needs", changed(lineNet(5), 1, 3, 256, 3, 1, 256), true},
		{"the last ways are there no more", changed(meshNet(2), 1, 2, 0, 2, 1, 0), false},
		{"the first ways are there", changed(silentNet(3), 1, 2, 4, 2, 1, 6, 2, 3, 5, 3, 2, 7), false},
		{"other ways are there", changed(netWith(3, 0, 1, 0, 1, 0, 0, 0, 0, 0), 1, 2, 0, 2, 1, 0, 1, 3, 1, 3, 1, 1), false},
	} {
		checkConverged(t, c.what, c.n, c.same)
		checkAgain(t, c.what, c.n)
	}
}

// A router that begins anew knows nothing. With older numbers than it had the others take it for stale at first.
func TestPromise15WhatWasBegunAnew(t *testing.T) {
	for _, base := range []impl.Net{meshNet(2), lineNet(5), meshNet(4)} {
		for _, ran := range []int{20, 21, 23, 50} {
			n := ticksOf(t, "ahead", base, ran)
			for i, r := range n.Routers {
				for _, back := range []int{0, 1, 7, 20, 32767, 32768, 65535} {
					what := strconv.Itoa(r.Addr) + " anew, " + strconv.Itoa(back) + " back"
					x, _ := impl.Restart(n, i+1, (r.Seq+65536-back)%65536)
					checkConverged(t, what, x, false)
					checkWalk(t, what, x, i+1, 1+(i+1)%len(n.Routers), []int{i + 1}, impl.ErrNone)
					checkAgain(t, what, x)
				}
			}
		}
	}
	n := ticksOf(t, "ahead", lineNet(5), 50)
	for i := range n.Routers {
		n, _ = impl.Restart(n, i+1, 60000)
	}
	checkConverged(t, "all anew", n, false)
	checkAgain(t, "all anew", n)
}

// upset does all that may be done with a net but putting bytes into its air.
func (d *draws) upset(t *testing.T, n impl.Net) impl.Net {
	size := len(n.Routers)
	for range 20 + d.next(80) {
		a, b := 1+d.next(size), 1+d.next(size)
		switch d.next(10) {
		case 0:
			if a != b {
				n, _ = impl.SetCost(n, a, b, d.next(2)*d.next(257))
			}
		case 1:
			r := n.Routers[a-1]
			n, _ = impl.Restart(n, a, []int{d.number(), (r.Seq + 65536 - d.next(30)) % 65536, (r.Ansn + 32768) % 65536}[d.next(3)])
		default:
			lose := make([]int, d.next(8))
			for i := range lose {
				lose[i] = d.next(2)
			}
			n, _ = impl.NetTick(n, lose)
		}
	}
	checkCover(t, "an upset net", n)
	return n
}

func TestPromise15WhateverWasLostChangedOrBegunAnew(t *testing.T) {
	d := &draws{155}
	upset := 0
	for range 60 {
		for size := 1; size <= 5; size++ {
			n := d.upset(t, d.willing(size))
			checkAudit(t, "an upset net", n)
			if ok, _ := impl.Converged(n); !ok {
				upset++
			}
			checkAgain(t, "an upset net", n)
		}
	}
	if upset < 60 {
		t.Error("too few are upset to tell anything:", upset)
	}
}

// Once and again: a net that has come to its true ways comes to others.
func TestPromise15UpsetAgainAndAgain(t *testing.T) {
	d := &draws{156}
	for range 6 {
		n := d.willing(5)
		for range 5 {
			n = ticksOf(t, "upset again", d.upset(t, n), againTicks)
			checkKeepsTrue(t, "upset again", n)
		}
	}
}

// Bytes that tell of ways that are not there are believed as long as they hold: the theorem says nothing of these.
func TestPromise15WhatWasPutIntoTheAirIsBelieved(t *testing.T) {
	n := ticksOf(t, "ahead", lineNet(3), 50)
	n, _ = impl.Inject(n, 2, 1, []byte(packetBytes([]impl.Message{tcFrom(3, 60000, edgesTo(8)...)})))
	n = ticksOf(t, "told of 8", n, 1)
	checkConverged(t, "told of 8", n, false)
	checkAudit(t, "told of 8", n)
	checkTrueWalk(t, "told of 8", n, 1, 3)
	if list, code := impl.ErrorsOf(n); !slices.Equal(list, []int{0, 0, 0}) || code != impl.OK {
		t.Error("told of 8:", list, code)
	}
	checkAgain(t, "told of 8", n)
}

// Near the end of time the theorem holds as ever.
func TestPromise15NetsAtTheEndOfTime(t *testing.T) {
	n := lineNet(5)
	n.Time = maxTick - beginTicks
	n = ticksOf(t, "late", n, beginTicks)
	checkTrue(t, "late", n)
	checkAudit(t, "late", n)
	for i := range n.Routers {
		n.Routers[i].Now = maxTick
	}
	checkAudit(t, "too late", n)
	checkConverged(t, "too late", n, false)
}
