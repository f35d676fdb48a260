package tests

import (
	"slices"
	"strconv"
	"strings"
	"testing"

	"loop.example/g00419/impl"
)

const maxActs = 60

func ticksAct(count int) impl.Act {
	return impl.Act{Kind: impl.AcTicks, N: count}
}

func lossyAct(count int, lose ...int) impl.Act {
	return impl.Act{Kind: impl.AcLossy, N: count, Lose: lose}
}

func costAct(a, b, cost int) impl.Act {
	return impl.Act{Kind: impl.AcCost, A: a, B: b, N: cost}
}

func restartAct(a, seq int) impl.Act {
	return impl.Act{Kind: impl.AcRestart, A: a, N: seq}
}

func injectAct(a, b int, bytes string) impl.Act {
	return impl.Act{Kind: impl.AcInject, A: a, B: b, Bytes: bytes}
}

func areWantSigns(list []int) bool {
	return !slices.ContainsFunc(list, func(x int) bool { return x != 0 && x != 1 })
}

// wantActCode is the code of an act on a right net, by chapter 16's words, and by chapter 14's where it names its calls.
func wantActCode(n impl.Net, a impl.Act) int {
	isRouter := func(x int) bool { return 1 <= x && x <= len(n.Routers) }
	areApart := isRouter(a.A) && isRouter(a.B) && a.A != a.B
	switch a.Kind {
	case impl.AcTicks, impl.AcLossy:
		lossy := a.Kind == impl.AcLossy
		switch {
		case a.N < 0 || a.N > maxTicks || lossy && !areWantSigns(a.Lose):
			return impl.ErrRange
		case n.Time+a.N > maxTick:
			return impl.ErrEnd
		}
	case impl.AcCost:
		if !areApart || a.N < 0 || a.N > 256 {
			return impl.ErrRange
		}
	case impl.AcRestart:
		if !isRouter(a.A) || a.N < 0 || a.N > 65535 {
			return impl.ErrRange
		}
	case impl.AcInject:
		switch {
		case !areApart || len(a.Bytes) > maxFrame:
			return impl.ErrRange
		case len(n.Air) == maxAir:
			return impl.ErrFull
		}
	default:
		return impl.ErrForm
	}
	return impl.OK
}

// wantAct does an act by the words of chapters 14 and 16, without any of the program's calls on nets.
func wantAct(n impl.Net, a impl.Act) (impl.Net, int) {
	n = clonedNet(n)
	if code := wantActCode(n, a); code != impl.OK {
		return n, code
	}
	switch a.Kind {
	case impl.AcTicks:
		for range a.N {
			n = wantNetTick(n, nil)
		}
	case impl.AcLossy:
		for range a.N {
			n = wantNetTick(n, a.Lose)
		}
	case impl.AcCost:
		n.Costs[(a.A-1)*len(n.Routers)+a.B-1] = a.N
	case impl.AcRestart:
		old := n.Routers[a.A-1]
		n.Routers[a.A-1] = impl.Router{Addr: a.A, Will: old.Will, Seq: a.N, Ansn: a.N, Now: old.Now}
	case impl.AcInject:
		n.Air = append(n.Air, impl.Frame{From: a.A, To: a.B, At: n.Time + 1, Bytes: a.Bytes})
	}
	return n, impl.OK
}

// briefAct tells the beginning of signs and bytes that may be many.
func briefAct(a impl.Act) string {
	return "act " + brief([]int{a.Kind, a.A, a.B, a.N}) + " lose " + brief(a.Lose) + " bytes " + strconv.Quote(a.Bytes[:min(20, len(a.Bytes))]) + " of " + strconv.Itoa(len(a.Bytes))
}

func briefActs(acts []impl.Act) string {
	var list []string
	for _, a := range acts[:min(12, len(acts))] {
		list = append(list, briefAct(a))
	}
	return strconv.Itoa(len(acts)) + " acts: " + strings.Join(list, "; ")
}

// checkDone asks for this net and this code; a net that was right stays so, whatever the code is.
func checkDone(t *testing.T, what string, n impl.Net, a impl.Act, want impl.Net, wantCode int) impl.Net {
	t.Helper()
	what = "ActDo of " + briefAct(a) + " on " + what
	var got impl.Net
	mustNotPanic(t, what, func() {
		var code int
		got, code = impl.ActDo(n, a)
		checkNet(t, what, got, code, want, wantCode)
		if !impl.NetOK(got) {
			t.Fatalf("%s made a net that is not right: %s", what, briefNet(got))
		}
	})
	return got
}

// checkAct holds an act on a right net against the chapters' words.
func checkAct(t *testing.T, what string, n impl.Net, a impl.Act) impl.Net {
	t.Helper()
	want, code := wantAct(n, a)
	return checkDone(t, what, n, a, want, code)
}

// checkActCode asks for this code by hand, and for the net as it was.
func checkActCode(t *testing.T, what string, n impl.Net, a impl.Act, want int) {
	t.Helper()
	if code := wantActCode(n, a); code != want {
		t.Fatalf("the reckoning's own code of %s on %s is %d, not %d", briefAct(a), what, code, want)
	}
	checkDone(t, what, n, a, n, want)
}

// checkRun holds a run against its acts one by one: those of the chapters' words, and those of ActDo.
func checkRun(t *testing.T, what string, n impl.Net, acts []impl.Act, wantCodes ...int) impl.Net {
	t.Helper()
	want, one := n, n
	var codes, oneCodes []int
	for _, a := range acts {
		var code int
		want, code = wantAct(want, a)
		codes = append(codes, code)
		one, code = impl.ActDo(one, a)
		oneCodes = append(oneCodes, code)
	}
	if len(wantCodes) > 0 && !slices.Equal(codes, wantCodes) {
		t.Fatalf("the reckoning's own codes of %s on %s are %v, not %v", briefActs(acts), what, codes, wantCodes)
	}
	got, gotCodes, code := impl.ActsRun(n, acts)
	checkNet(t, "ActsRun of "+briefActs(acts)+" on "+what, got, code, want, impl.OK)
	if !slices.Equal(gotCodes, codes) {
		t.Fatalf("ActsRun of %s on %s: codes %v, not %v", briefActs(acts), what, gotCodes, codes)
	}
	if !sameNet(one, got) || !slices.Equal(oneCodes, codes) {
		t.Fatalf("%s on %s: one by one %s, codes %v, at once %s, codes %v", briefActs(acts), what, briefNet(one), oneCodes, briefNet(got), gotCodes)
	}
	return got
}

func ranNet(n impl.Net, ticks int) impl.Net {
	for range ticks {
		n = wantNetTick(n, nil)
	}
	return n
}

// actNets are of one, two and six routers, at their beginning and when they have run.
func actNets() []namedNet {
	var list []namedNet
	for _, c := range []namedNet{
		{"one router", meshNet(1)}, {"two", netWith(2, 0, 4, 6, 0)}, {"six in a line", lineNet(6)}, {"six, each hears each", meshNet(6)},
	} {
		list = append(list, c, namedNet{c.name + " behind 34 ticks", ranNet(c.n, 34)})
	}
	return append(list, namedNet{"two, one way", ranNet(netWith(2, 0, 4, 0, 0), 9)}, namedNet{"relays", passingNet()})
}

func atTime(n impl.Net, time int) impl.Net {
	n = clonedNet(n)
	for i := range n.Air {
		n.Air[i].At += time - n.Time
	}
	n.Time = time
	return n
}

// signsOf are count signs, of which each third is 1.
func signsOf(count int) []int {
	var list []int
	for i := range count {
		list = append(list, (i%3)/2)
	}
	return list
}

// eachLose has no signs, one, many, as many as a text has at most, one more, and as many as a list has at most.
func eachLose() [][]int {
	return [][]int{
		nil, {}, {0}, {1}, {0, 1}, {1, 0, 0}, {0, 1, 1, 0}, signsOf(maxActs - 1), signsOf(maxActs), signsOf(maxActs + 1),
		slices.Repeat([]int{1}, maxActs+1), signsOf(impl.MaxList),
	}
}

func TestPromise16TicksWithoutALoss(t *testing.T) {
	for _, c := range actNets() {
		for _, count := range []int{0, 1, 2, 5, 45} {
			got := checkAct(t, c.name, c.n, ticksAct(count))
			x, code := impl.NetTicks(c.n, count)
			checkNet(t, "NetTicks of "+c.name, x, code, got, impl.OK)
			if got.Time != c.n.Time+count {
				t.Errorf("%d ticks of %s: from %d to %d", count, c.name, c.n.Time, got.Time)
			}
		}
		for _, count := range []int{-1, 201, 202, 65536} {
			checkActCode(t, c.name, c.n, ticksAct(count), impl.ErrRange)
		}
	}
	for _, c := range []impl.Net{meshNet(1), netWith(2, 0, 4, 6, 0), ranNet(lineNet(6), 20)} {
		for _, count := range []int{199, 200} {
			checkAct(t, "a net that runs long", c, ticksAct(count))
		}
	}
}

// Lossy ticks are the same as that many NetTick, also without a sign.
func TestPromise16LossyTicks(t *testing.T) {
	for _, c := range actNets() {
		for _, lose := range eachLose() {
			for _, count := range []int{0, 1, 2, 7} {
				got := checkAct(t, c.name, c.n, lossyAct(count, lose...))
				want := c.n
				for range count {
					x, code := impl.NetTick(want, lose)
					if code != impl.OK {
						t.Fatalf("NetTick of %s, %s: code %d", c.name, brief(lose), code)
					}
					want = x
				}
				checkNet(t, strconv.Itoa(count)+" lossy ticks of "+c.name, got, impl.OK, want, impl.OK)
			}
			for _, count := range []int{-1, 201, 202} {
				checkActCode(t, c.name, c.n, lossyAct(count, lose...), impl.ErrRange)
			}
		}
	}
	for _, c := range []impl.Net{meshNet(1), netWith(2, 0, 4, 6, 0), ranNet(lineNet(6), 20)} {
		for _, count := range []int{199, 200} {
			checkAct(t, "a net that runs long", c, lossyAct(count, 0, 1, 0))
		}
	}
}

// Of each sign the whole list is asked, also if no tick would come to it.
func TestPromise16LossyTicksWithWrongSigns(t *testing.T) {
	for _, c := range actNets() {
		for _, x := range []int{-1, 2, 3, 48, 49, 256, 257, 1 << 32, 1<<32 + 1} {
			for _, lose := range [][]int{{x}, {x, 0}, {0, x}, {0, 1, x, 1, 0}, append(signsOf(59), x), append(signsOf(60), x), append(make([]int, impl.MaxList-1), x)} {
				for _, count := range []int{0, 1, 200, 201, -1} {
					checkActCode(t, c.name, c.n, lossyAct(count, lose...), impl.ErrRange)
					checkActCode(t, c.name+" at its end", atTime(c.n, maxTick), lossyAct(count, lose...), impl.ErrRange)
				}
			}
		}
	}
}

// The end is just reached, just passed, and long passed.
func TestPromise16TicksAtTheEndOfTime(t *testing.T) {
	for _, c := range actNets() {
		for _, k := range []int{1, 2, 200} {
			if k == 200 && len(c.n.Routers) > 2 {
				continue
			}
			n := atTime(c.n, maxTick-k)
			for _, a := range []impl.Act{ticksAct(k), lossyAct(k), lossyAct(k, 0, 1)} {
				if got := checkAct(t, c.name, n, a); got.Time != maxTick {
					t.Errorf("%s on %s at %d comes to %d", briefAct(a), c.name, n.Time, got.Time)
				}
			}
		}
		for _, k := range []int{0, 1, 2, 150, 199} {
			n := atTime(c.n, maxTick-k)
			for _, count := range []int{k + 1, (k + 201) / 2, 200} {
				for _, lose := range eachLose() {
					checkActCode(t, c.name+" near its end", n, lossyAct(count, lose...), impl.ErrEnd)
				}
				checkActCode(t, c.name+" near its end", n, ticksAct(count), impl.ErrEnd)
			}
			// What is out of its bounds is so ahead of the end.
			for _, count := range []int{201, -1} {
				checkActCode(t, c.name+" near its end", n, ticksAct(count), impl.ErrRange)
				checkActCode(t, c.name+" near its end", n, lossyAct(count, 1), impl.ErrRange)
			}
		}
		end := atTime(c.n, maxTick)
		for _, a := range []impl.Act{ticksAct(0), lossyAct(0), lossyAct(0, 1, 0)} {
			checkActCode(t, c.name+" at its end", end, a, impl.OK)
		}
	}
}

func TestPromise16Costs(t *testing.T) {
	for _, c := range actNets() {
		size := len(c.n.Routers)
		for a := range size + 2 {
			for b := range size + 2 {
				for _, cost := range []int{-1, 0, 1, 128, 256, 257} {
					act := costAct(a, b, cost)
					got := checkAct(t, c.name, c.n, act)
					if wantActCode(c.n, act) == impl.OK {
						want, code := impl.SetCost(c.n, a, b, cost)
						checkNet(t, "SetCost of "+c.name, want, code, got, impl.OK)
					}
				}
			}
		}
	}
	n := netWith(3, 0, 4, 5, 6, 0, 7, 8, 9, 0)
	if got := checkAct(t, "three", n, costAct(2, 3, 77)); !slices.Equal(got.Costs, []int{0, 4, 5, 6, 0, 77, 8, 9, 0}) {
		t.Error("the way from 2 to 3 costs 77:", got.Costs)
	}
}

func TestPromise16Restarts(t *testing.T) {
	for _, c := range actNets() {
		for a := range len(c.n.Routers) + 2 {
			for _, seq := range []int{-1, 0, 1, 500, 32768, 65535, 65536} {
				act := restartAct(a, seq)
				got := checkAct(t, c.name, c.n, act)
				if wantActCode(c.n, act) == impl.OK {
					want, code := impl.Restart(c.n, a, seq)
					checkNet(t, "Restart of "+c.name, want, code, got, impl.OK)
				}
			}
		}
	}
	n := ranNet(netWith(2, 0, 4, 6, 0), 34)
	n.Routers[1].Will = 5
	got := checkAct(t, "two", n, restartAct(2, 500))
	if x := (impl.Router{Addr: 2, Will: 5, Seq: 500, Ansn: 500, Now: 34}); !sameRouter(got.Routers[1], x) || !sameRouter(got.Routers[0], n.Routers[0]) {
		t.Error("2 begins anew:", briefNet(got))
	}
}

func TestPromise16Injections(t *testing.T) {
	packet := packetBytes([]impl.Message{helloFrom(1)})
	for _, c := range actNets() {
		size := len(c.n.Routers)
		for a := range size + 2 {
			for b := range size + 2 {
				for _, bytes := range []string{"", "z", "\x00\xff", packet, strings.Repeat("y", maxFrame), strings.Repeat("z", maxFrame+1), strings.Repeat("z", impl.MaxText), strings.Repeat("z", impl.MaxText+1)} {
					act := injectAct(a, b, bytes)
					got := checkAct(t, c.name, c.n, act)
					if wantActCode(c.n, act) == impl.OK {
						want, code := impl.Inject(c.n, a, b, []byte(bytes))
						checkNet(t, "Inject of "+c.name, want, code, got, impl.OK)
					}
				}
			}
		}
	}
	n := fullPassing(maxAir - 1)
	n = checkAct(t, "room for one more", n, injectAct(1, 2, "zz"))
	if x := n.Air[maxAir-1]; x != (impl.Frame{From: 1, To: 2, At: 11, Bytes: "zz"}) {
		t.Error("the last one of a full air:", frameText(x))
	}
	checkActCode(t, "a full air", n, injectAct(1, 2, ""), impl.ErrFull)
	checkActCode(t, "a full air", n, injectAct(6, 5, strings.Repeat("z", maxFrame)), impl.ErrFull)
	checkActCode(t, "a full air", n, injectAct(6, 6, ""), impl.ErrRange)
	checkActCode(t, "a full air", n, injectAct(6, 5, strings.Repeat("z", maxFrame+1)), impl.ErrRange)
	checkAct(t, "a full air", n, ticksAct(1))
}

// At its end a net's costs, air and routers may still change.
func TestPromise16OtherActsAtTheEndOfTime(t *testing.T) {
	for _, c := range actNets() {
		n := atTime(c.n, maxTick)
		for _, a := range []impl.Act{costAct(1, 2, 9), costAct(2, 1, 0), restartAct(1, 9), injectAct(1, 2, "zz"), injectAct(2, 1, "")} {
			checkAct(t, c.name+" at its end", n, a)
		}
	}
}

// An act takes of its fields just what its kind needs: in all others anything may stand.
func TestPromise16FieldsOfOtherKindsDoNotCount(t *testing.T) {
	wrong, long := []int{2, -1}, strings.Repeat("z", impl.MaxText+1)
	for _, c := range actNets() {
		for _, x := range []int{-1, 0, 1, 7, 1 << 40} {
			ticks, lossy, cost, restart, inject := ticksAct(2), lossyAct(2, 0, 1), costAct(1, 2, 9), restartAct(1, 9), injectAct(1, 2, "zz")
			for _, a := range []*impl.Act{&ticks, &lossy, &cost, &restart, &inject} {
				want, code := wantAct(c.n, *a)
				if a.Kind == impl.AcTicks || a.Kind == impl.AcLossy {
					a.A, a.B = x, x
				}
				if a.Kind == impl.AcRestart {
					a.B = x
				}
				if a.Kind == impl.AcInject {
					a.N = x
				} else {
					a.Bytes = long
				}
				if a.Kind != impl.AcLossy {
					a.Lose = wrong
				}
				checkDone(t, c.name, c.n, *a, want, code)
			}
		}
	}
}

func TestPromise16ActsOfOtherKinds(t *testing.T) {
	for _, c := range append(actNets(), edgeNets()...) {
		for _, kind := range wildNetInts {
			if 1 <= kind && kind <= 5 {
				continue
			}
			for _, a := range []impl.Act{{}, ticksAct(1), lossyAct(1, 1), costAct(1, 2, 9), restartAct(1, 9), injectAct(1, 2, "zz"), ticksAct(201), lossyAct(1, 2), injectAct(1, 1, "")} {
				a.Kind = kind
				checkActCode(t, c.name, c.n, a, impl.ErrForm)
			}
		}
	}
}

func TestPromise16ActsOnRightNets(t *testing.T) {
	for _, c := range rightNets() {
		for _, a := range []impl.Act{
			ticksAct(0), ticksAct(1), ticksAct(3), lossyAct(2), lossyAct(2, 1), lossyAct(3, 0, 1, 1), costAct(1, 2, 0), costAct(2, 1, 256),
			restartAct(1, 65535), injectAct(1, 2, "zz"), {Kind: 6}, ticksAct(-1), lossyAct(1, 7), costAct(1, 2, 257), restartAct(7, 0), injectAct(1, 1, ""),
		} {
			checkAct(t, c.name, c.n, a)
		}
	}
}
