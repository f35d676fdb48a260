package tests

import (
	"slices"
	"strings"
	"testing"

	"loop.example/g00419/impl"
)

func checkLines(t *testing.T, what string, n impl.Net, router int, want ...string) {
	t.Helper()
	if lines, code := impl.RouterText(n.Routers[router-1]); !slices.Equal(lines, want) || code != impl.OK {
		t.Errorf("%s: %d tells %q, code %d, not %q", what, router, lines, code, want)
	}
}

// What two routers send tick by tick, and know of each other, is told by hand.
func TestPromise16ARunByHand(t *testing.T) {
	n := netWith(2, 0, 4, 6, 0)
	x := checkRun(t, "two", n, []impl.Act{ticksAct(9)}, impl.OK)
	checkAir(t, "two at 9", x, "1>2@10 [hello 1 5 1 0 7] [tc 1 6 255 0 7]")
	checkLines(t, "two at 9", x, 1, "2 sym 6 4", "2 by 2 cost 4 hops 1")
	x = checkRun(t, "two", n, []impl.Act{ticksAct(8), lossyAct(1, 1)}, impl.OK, impl.OK)
	checkAir(t, "two at 9, all is lost", x)
	if x.Routers[0].Seq != 7 {
		t.Error("what is lost was sent all the same:", briefNet(x))
	}
	x = checkRun(t, "two", n, []impl.Act{ticksAct(40), costAct(1, 2, 9), ticksAct(10)}, impl.OK, impl.OK, impl.OK)
	checkLines(t, "two at 50", x, 1, "2 sym 6 9", "2 by 2 cost 9 hops 1")
	checkLines(t, "two at 50", x, 2, "1 sym 9 6", "1 by 1 cost 6 hops 1")
	x = checkRun(t, "two", n, []impl.Act{ticksAct(40), costAct(2, 1, 0), ticksAct(40), restartAct(2, 700)}, impl.OK, impl.OK, impl.OK, impl.OK)
	checkLines(t, "two at 80", x, 1)
	if r := (impl.Router{Addr: 2, Will: 3, Seq: 700, Ansn: 700, Now: 80}); !sameRouter(x.Routers[1], r) {
		t.Error("2 begins anew:", briefRouter(x.Routers[1]))
	}
	x = checkRun(t, "two", n, []impl.Act{injectAct(1, 2, "x"), injectAct(2, 1, "y"), injectAct(1, 2, "z"), ticksAct(1)}, impl.OK, impl.OK, impl.OK, impl.OK)
	if x.Routers[0].Errors != 1 || x.Routers[1].Errors != 2 {
		t.Error("bytes that are no packet:", briefNet(x))
	}
	x = checkRun(t, "two", n, []impl.Act{ticksAct(40), lossyAct(20, 1)}, impl.OK, impl.OK)
	checkLines(t, "all is lost", x, 1)
	checkLines(t, "all is lost", x, 2)
}

// Which frame of a tick is lost is told by hand, and that each tick of an act is counted anew.
func TestPromise16WhatALossyActLoses(t *testing.T) {
	for i := range passedTexts {
		for _, size := range []int{len(passedTexts), maxActs, maxActs + 1, impl.MaxList} {
			lose := make([]int, size)
			lose[i] = 1
			n := checkAct(t, "relays", passingNet(), lossyAct(1, lose...))
			checkAir(t, "relays at 11", n, slices.Delete(slices.Clone(passedTexts), i, i+1)...)
		}
	}
	n := checkAct(t, "relays", passingNet(), lossyAct(1, 1))
	checkAir(t, "all is lost", n)
	three := netWith(3, 0, 4, 5, 6, 0, 7, 8, 9, 0)
	lose := append([]int{1}, make([]int, 40)...)
	got := checkAct(t, "three", three, lossyAct(6, lose...))
	for range 6 {
		plain := wantNetTick(three, nil)
		plain.Air = plain.Air[min(1, len(plain.Air)):]
		three = plain
	}
	checkNet(t, "the first one of each tick is lost", got, impl.OK, three, impl.OK)
}

// mixedActs have each kind, with and without codes.
func mixedActs() []impl.Act {
	return []impl.Act{
		ticksAct(3), ticksAct(201), lossyAct(2, 1), {Kind: 6}, costAct(1, 2, 7), {}, lossyAct(1, 2), restartAct(2, 9), costAct(1, 1, 0),
		injectAct(1, 2, "x"), restartAct(3, 0), injectAct(1, 3, ""), ticksAct(1), {Kind: -1}, injectAct(2, 1, strings.Repeat("z", maxFrame+1)), lossyAct(201, 0), ticksAct(-1), lossyAct(2, 0, 1),
	}
}

// Behind an act with a code the run goes on with the net as it was ahead of it.
func TestPromise16ARunGoesOnBehindACode(t *testing.T) {
	const ok, form, rng = impl.OK, impl.ErrForm, impl.ErrRange
	codes := []int{ok, rng, ok, form, ok, form, rng, ok, rng, ok, rng, rng, ok, form, rng, rng, rng, ok}
	n := checkRun(t, "two", netWith(2, 0, 1, 1, 0), mixedActs(), codes...)
	var done []impl.Act
	for i, a := range mixedActs() {
		if codes[i] == ok {
			done = append(done, a)
		}
	}
	x := checkRun(t, "two", netWith(2, 0, 1, 1, 0), done, ok, ok, ok, ok, ok, ok, ok)
	if !sameNet(x, n) {
		t.Errorf("acts without a code alone: %s, not %s", briefNet(x), briefNet(n))
	}
	if n.Time != 8 || n.Costs[1] != 7 || n.Routers[1].Errors != 1 {
		t.Error("a run with codes:", briefNet(n))
	}
	for _, c := range actNets() {
		checkRun(t, c.name, c.n, mixedActs())
	}
	// Codes at the beginning of a run, and at its end.
	bad := []impl.Act{{Kind: 6}, ticksAct(-1), lossyAct(0, 5)}
	checkRun(t, "two", netWith(2, 0, 1, 1, 0), slices.Concat(bad, []impl.Act{ticksAct(2)}, bad), form, rng, rng, ok, form, rng, rng)
}

// Codes that come of what earlier acts have made of the net.
func TestPromise16CodesThatComeWithTheRun(t *testing.T) {
	const ok = impl.OK
	late := atTime(netWith(2, 0, 4, 6, 0), maxTick-3)
	checkRun(t, "two near their end", late,
		[]impl.Act{ticksAct(2), ticksAct(2), lossyAct(2, 1), lossyAct(1, 1), ticksAct(1), lossyAct(1), costAct(1, 2, 3), ticksAct(0), ticksAct(201)},
		ok, impl.ErrEnd, impl.ErrEnd, ok, impl.ErrEnd, impl.ErrEnd, ok, ok, impl.ErrRange)
	full := fullPassing(maxAir - 2)
	checkRun(t, "an air that fills", full,
		[]impl.Act{injectAct(1, 2, ""), injectAct(2, 1, "z"), injectAct(2, 1, "z"), costAct(1, 2, 0), injectAct(1, 2, ""), lossyAct(1, 1), injectAct(1, 2, "")},
		ok, ok, impl.ErrFull, ok, impl.ErrFull, ok, ok)
}

func TestPromise16HowManyActsARunTakes(t *testing.T) {
	for _, c := range actNets() {
		for _, acts := range [][]impl.Act{nil, {}} {
			got, codes, code := impl.ActsRun(c.n, acts)
			checkNet(t, "ActsRun of no acts on "+c.name, got, code, c.n, impl.OK)
			if len(codes) != 0 {
				t.Errorf("no acts on %s: codes %v", c.name, codes)
			}
		}
		checkRun(t, c.name, c.n, []impl.Act{ticksAct(1)}, impl.OK)
		checkRun(t, c.name, c.n, []impl.Act{{Kind: 9}}, impl.ErrForm)
		for _, count := range []int{2, maxActs - 1, maxActs} {
			checkRun(t, c.name, c.n, slices.Repeat([]impl.Act{ticksAct(1)}, count))
			checkRun(t, c.name, c.n, slices.Repeat([]impl.Act{{}}, count))
		}
	}
	// As much as a run may do at all.
	n := netWith(2, 0, 4, 6, 0)
	acts := slices.Repeat([]impl.Act{ticksAct(200), lossyAct(200, 0, 0, 1)}, maxActs/2)
	if n = checkRun(t, "two", n, acts); n.Time != 12000 {
		t.Error("sixty times 200 ticks:", n.Time)
	}
}

// act is drawn of each kind, now and then with a fault.
func (d *draws) act(size int) impl.Act {
	a, b := d.next(size+2), d.next(size+2)
	if size > 1 && d.next(4) > 0 {
		a = 1 + d.next(size)
		b = 1 + (a+d.next(size-1))%size
	}
	switch d.next(12) {
	case 0, 1:
		return ticksAct(d.next(5) - d.next(2))
	case 2, 3, 4:
		lose := make([]int, d.next(12))
		for i := range lose {
			lose[i] = d.next(2)
		}
		if len(lose) > 0 && d.next(8) == 0 {
			lose[d.next(len(lose))] = 2
		}
		return lossyAct(d.next(5), lose...)
	case 5, 6:
		return costAct(a, b, d.next(2)*d.next(258))
	case 7:
		return restartAct(a, d.next(65537))
	case 8, 9:
		return injectAct(a, b, packetBytes([]impl.Message{helloFrom(max(1, min(8, a)), symNeighbor(max(1, b), 5))}))
	case 10:
		return injectAct(a, b, d.text(d.next(902)))
	}
	return impl.Act{Kind: d.next(9), A: a, B: b, N: d.next(300) - 20, Lose: []int{d.next(3)}, Bytes: d.text(d.next(9))}
}

func TestPromise16DrawnRuns(t *testing.T) {
	d := &draws{160}
	for i := range 150 {
		n := d.net()
		if i%3 == 0 {
			n = ranNet(d.willing(1+d.next(maxRouters)), d.next(30))
		}
		acts := make([]impl.Act, d.next(25))
		for j := range acts {
			acts[j] = d.act(len(n.Routers))
		}
		n = checkRun(t, "a drawn one", n, acts)
		// A run in two pieces is the same run.
		checkRun(t, "a drawn one that goes on", n, acts[:len(acts)/2])
	}
}

func TestPromise16ARunInTwoPieces(t *testing.T) {
	for _, c := range actNets() {
		acts := mixedActs()
		whole, codes, _ := impl.ActsRun(c.n, acts)
		for i := range len(acts) + 1 {
			first, firstCodes, _ := impl.ActsRun(c.n, acts[:i])
			second, secondCodes, code := impl.ActsRun(first, acts[i:])
			checkNet(t, "two pieces on "+c.name, second, code, whole, impl.OK)
			if !slices.Equal(slices.Concat(firstCodes, secondCodes), codes) {
				t.Errorf("two pieces on %s: codes %v and %v, not %v", c.name, firstCodes, secondCodes, codes)
			}
		}
	}
}
