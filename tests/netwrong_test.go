package tests

import (
	"math"
	"slices"
	"strconv"
	"strings"
	"testing"

	"loop.example/g00419/impl"
)

// wildNetInts are integers around all bounds of a net's fields and of what its calls are given, and far outside them.
var wildNetInts = append([]int{4, 5, 199, 200, 201, 899, 900, 901}, wildRouterInts...)

// wrongRouterNets have too few or too many routers, ones that are not in their places, or ones that are not right.
func wrongRouterNets() []namedNet {
	list := []namedNet{{"no routers", impl.Net{}}, {"no routers, at a time", impl.Net{Time: 10}}, {"one cost, no routers", impl.Net{Costs: []int{0}}}}
	for _, size := range []int{7, 8, 9, 64} {
		list = append(list, namedNet{strconv.Itoa(size) + " routers", silentNet(size)})
	}
	for _, addrs := range [][]int{{2}, {8}, {0}, {1, 1}, {2, 1}, {1, 3}, {0, 1}, {2, 3}, {1, 2, 2}, {1, 3, 2}, {3, 2, 1}, {1, 2, 4}, {1, 2, 3, 4, 5, 7}, {1, 2, 3, 4, 6, 5}, {2, 1, 3, 4, 5, 6}} {
		n := silentNet(len(addrs))
		for i, addr := range addrs {
			n.Routers[i].Addr = addr
		}
		list = append(list, namedNet{"addresses " + brief(addrs), n})
	}
	// Those that are 3 stand in their place, so that nothing else is wrong.
	for i, r := range wrongRouters() {
		if r.Addr != 3 {
			continue
		}
		n := meshNet(4)
		n.Time, n.Routers[2] = maxTick, r
		list = append(list, namedNet{"a wrong router " + strconv.Itoa(i), n})
	}
	for i := range 6 {
		for _, time := range []int{0, 9, maxTick - 1} {
			n := meshNet(6)
			n.Time, n.Routers[i].Now = time, time+1
			list = append(list, namedNet{strconv.Itoa(i+1) + " is ahead of " + strconv.Itoa(time), n})
			n = clonedNet(n)
			n.Routers[i].Now = maxTick
			list = append(list, namedNet{strconv.Itoa(i+1) + " is far ahead of " + strconv.Itoa(time), n})
		}
	}
	return list
}

func wrongTimeNets() []namedNet {
	var list []namedNet
	for _, time := range wildNetInts {
		if time < 0 || time > maxTick {
			n := meshNet(2)
			n.Time = time
			list = append(list, namedNet{"time " + strconv.Itoa(time), n})
		}
	}
	return list
}

func wrongCostNets() []namedNet {
	var list []namedNet
	for size := 1; size <= 6; size++ {
		for _, count := range []int{0, 1, size, size*size - 1, size*size + 1, size*size + size, 2 * size * size, (size + 1) * (size + 1), impl.MaxList, impl.MaxList + 1} {
			if count != size*size {
				list = append(list, namedNet{strconv.Itoa(count) + " costs of " + strconv.Itoa(size), netWith(size, make([]int, count)...)})
			}
		}
		for i := range size * size {
			for _, cost := range []int{math.MinInt, -256, -1, 257, 258, 65536, math.MaxInt} {
				n := meshNet(size)
				n.Costs[i] = cost
				list = append(list, namedNet{"cost " + strconv.Itoa(cost) + " at " + strconv.Itoa(i), n})
			}
		}
		for a := range size {
			for _, cost := range []int{1, 5, 256} {
				n := meshNet(size)
				n.Costs[a*size+a] = cost
				list = append(list, namedNet{"a way from " + strconv.Itoa(a+1) + " to itself", n})
			}
		}
	}
	return list
}

// wrongFrames have one fault each in a net of three at 10.
func wrongFrames() []impl.Frame {
	right := impl.Frame{From: 1, To: 2, At: 10, Bytes: "z"}
	var list []impl.Frame
	for _, n := range wildNetInts {
		if n < 1 || n > 3 {
			from, to := right, right
			from.From, to.To = n, n
			list = append(list, from, to)
		}
		if n != 10 && n != 11 {
			at := right
			at.At = n
			list = append(list, at)
		}
	}
	for addr := 1; addr <= 3; addr++ {
		list = append(list, impl.Frame{From: addr, To: addr, At: 10}, impl.Frame{From: addr, To: addr, At: 11, Bytes: "z"})
	}
	for _, size := range []int{901, 902, 4097, impl.MaxText, impl.MaxText + 1} {
		list = append(list, impl.Frame{From: 1, To: 2, At: 10, Bytes: strings.Repeat("z", size)}, impl.Frame{From: 1, To: 2, At: 11, Bytes: strings.Repeat("\x00", size)})
	}
	return append(list, impl.Frame{}, impl.Frame{From: 1, To: 2, At: 9}, impl.Frame{From: 1, To: 2, At: 12}, impl.Frame{From: 4, To: 1, At: 10}, impl.Frame{From: 1, To: 4, At: 11})
}

func wrongAirNets() []namedNet {
	var list []namedNet
	right := impl.Frame{From: 2, To: 3, At: 11}
	for i, f := range wrongFrames() {
		for _, air := range [][]impl.Frame{{f}, {f, right}, {right, f}, {right, f, right}} {
			n := meshNet(3)
			n.Time, n.Air = 10, air
			list = append(list, namedNet{"a wrong frame " + strconv.Itoa(i), n})
		}
	}
	for _, count := range []int{maxAir + 1, maxAir + 2, 2 * maxAir, impl.MaxList, impl.MaxList + 1} {
		n := meshNet(3)
		n.Time, n.Air = 10, slices.Repeat([]impl.Frame{right}, count)
		list = append(list, namedNet{strconv.Itoa(count) + " frames", n})
	}
	late := meshNet(3)
	late.Time, late.Air = maxTick, []impl.Frame{{From: 1, To: 2, At: maxTick + 2}}
	early := meshNet(3)
	early.Air = []impl.Frame{{From: 1, To: 2, At: -1}}
	lone := meshNet(1)
	lone.Air = []impl.Frame{{From: 1, To: 2}}
	return append(list, namedNet{"late", late}, namedNet{"early", early}, namedNet{"from one router alone", lone})
}

// wrongFieldNets have one field of one router that is one above or one below its bounds, or far outside them.
func wrongFieldNets() []namedNet {
	var list []namedNet
	for i := range 3 {
		for _, f := range routerFields {
			for _, x := range []int{f.low - 1, f.high + 1, math.MinInt, math.MaxInt} {
				n := meshNet(3)
				n.Time = maxTick
				f.set(&n.Routers[i], x)
				list = append(list, namedNet{f.name + " " + strconv.Itoa(x) + " of " + strconv.Itoa(i+1), n})
			}
		}
	}
	return list
}

func wrongNets() []namedNet {
	return slices.Concat(wrongRouterNets(), wrongTimeNets(), wrongCostNets(), wrongAirNets())
}

// someWrongNets has one net of each kind of fault, for calls that are asked with much else.
func someWrongNets() []namedNet {
	var list []namedNet
	for _, kind := range [][]namedNet{wrongRouterNets(), wrongTimeNets(), wrongCostNets(), wrongAirNets()} {
		for i := 0; i < len(kind); i += 1 + len(kind)/8 {
			list = append(list, kind[i])
		}
	}
	return list
}

// checkNoNet asks for this code and a net that is zero.
func checkNoNet(t *testing.T, what string, call func() (impl.Net, int), want int) {
	t.Helper()
	mustNotPanic(t, what, func() {
		if got, code := call(); !sameNet(got, impl.Net{}) || code != want {
			t.Errorf("%s = %s, code %d, not %d", what, briefNet(got), code, want)
		}
	})
}

func checkCostCode(t *testing.T, n impl.Net, a, b, want int) {
	t.Helper()
	mustNotPanic(t, "CostAt", func() {
		if cost, code := impl.CostAt(n, a, b); cost != 0 || code != want {
			t.Errorf("CostAt(%s, %d, %d) = %d, %d, not code %d", briefNet(n), a, b, cost, code, want)
		}
	})
}

// checkNetCode asks that each call answers this code, whatever else it is given that isn't too long.
func checkNetCode(t *testing.T, what string, n impl.Net, a, b, number int, lose []int, bytes []byte, want int) {
	t.Helper()
	checkCostCode(t, n, a, b, want)
	checkNoNet(t, "SetCost of "+what, func() (impl.Net, int) { return impl.SetCost(n, a, b, number) }, want)
	checkNoNet(t, "NetTick of "+what, func() (impl.Net, int) { return impl.NetTick(n, lose) }, want)
	checkNoNet(t, "NetTicks of "+what, func() (impl.Net, int) { return impl.NetTicks(n, number) }, want)
	checkNoNet(t, "Inject of "+what, func() (impl.Net, int) { return impl.Inject(n, a, b, bytes) }, want)
	checkNoNet(t, "Restart of "+what, func() (impl.Net, int) { return impl.Restart(n, a, number) }, want)
}

func TestPromise14WrongNetsAreBad(t *testing.T) {
	for _, c := range wrongNets() {
		mustNotPanic(t, "NetOK", func() {
			if impl.NetOK(c.n) {
				t.Errorf("NetOK of %s: %s", c.name, briefNet(c.n))
			}
		})
		checkNetCode(t, c.name, c.n, 1, 2, 5, nil, []byte("z"), impl.ErrBad)
	}
}

// A net that is not right is bad ahead of numbers, signs and bytes that are out of their bounds, and of its end.
func TestPromise14BadAheadOfRange(t *testing.T) {
	for _, c := range someWrongNets() {
		for _, number := range []int{0, -1, 201, 300, 65536, math.MinInt, math.MaxInt} {
			checkNetCode(t, c.name, c.n, number, number, number, []int{2}, make([]byte, maxFrame+1), impl.ErrBad)
			checkNetCode(t, c.name, c.n, 1, 1, number, []int{0, -1}, make([]byte, impl.MaxText), impl.ErrBad)
		}
	}
	late := meshNet(2)
	late.Time, late.Costs = maxTick, []int{1, 1, 1, 1}
	checkNetCode(t, "a wrong one at its end", late, 1, 2, 1, []int{2}, nil, impl.ErrBad)
	full := fullPassing(maxAir)
	full.Air[7].At = 12
	checkNetCode(t, "a wrong one with a full air", full, 1, 2, 1, nil, nil, impl.ErrBad)
}

// Each bound of each field of a net, from both sides.
func TestPromise14EachBoundOfANet(t *testing.T) {
	check := func(what string, n impl.Net, want bool) {
		t.Helper()
		mustNotPanic(t, "NetOK", func() {
			if got := impl.NetOK(n); got != want {
				t.Errorf("NetOK with %s = %v", what, got)
			}
		})
	}
	for _, x := range wildNetInts {
		word := strconv.Itoa(x)
		n := meshNet(3)
		n.Time = x
		check("time "+word, n, 0 <= x && x <= maxTick)
		for i := range 3 {
			n = meshNet(3)
			n.Time, n.Routers[i].Now = 10, x
			check("Now "+word, n, 0 <= x && x <= 10)
			n = meshNet(3)
			n.Routers[i].Addr = x
			check("Addr "+word, n, x == i+1)
			n = meshNet(3)
			n.Routers[i].Will = x
			check("Will "+word, n, 0 <= x && x <= 7)
		}
		for i := range 9 {
			n = meshNet(3)
			n.Costs[i] = x
			check("cost "+word, n, x == 0 || i%4 != 0 && 0 < x && x <= 256)
		}
		for _, f := range []struct {
			frame impl.Frame
			want  bool
		}{
			{impl.Frame{From: x, To: 2, At: 10}, x == 1 || x == 3},
			{impl.Frame{From: 2, To: x, At: 11}, x == 1 || x == 3},
			{impl.Frame{From: 1, To: 2, At: x}, x == 10 || x == 11},
		} {
			n = meshNet(3)
			n.Time, n.Air = 10, []impl.Frame{f.frame}
			check(frameText(f.frame), n, f.want)
		}
		if 0 <= x && x <= impl.MaxText {
			n = meshNet(2)
			n.Air = []impl.Frame{{From: 1, To: 2, Bytes: strings.Repeat("z", x)}}
			check("a frame of "+word, n, x <= maxFrame)
			n.Air = make([]impl.Frame, x)
			for i := range n.Air {
				n.Air[i] = impl.Frame{From: 1, To: 2}
			}
			check("frames "+word, n, x <= maxAir)
			n = meshNet(2)
			n.Costs = make([]int, x)
			check("costs "+word, n, x == 4)
		}
	}
	for size := range 12 {
		check("routers "+strconv.Itoa(size), silentNet(size), 1 <= size && size <= maxRouters)
	}
}

func wantNewNetCode(wills, costs []int) int {
	out := func(low, high int) func(int) bool { return func(x int) bool { return x < low || x > high } }
	size := len(wills)
	switch {
	case size > impl.MaxList || len(costs) > impl.MaxList:
		return impl.ErrLong
	case size == 0 || size > maxRouters:
		return impl.ErrMany
	case len(costs) != size*size || slices.ContainsFunc(costs, out(0, 256)):
		return impl.ErrBad
	}
	for i := range wills {
		if costs[i*size+i] != 0 {
			return impl.ErrBad
		}
	}
	if slices.ContainsFunc(wills, out(0, 7)) {
		return impl.ErrRange
	}
	return impl.OK
}

func checkNewNet(t *testing.T, wills, costs []int) {
	t.Helper()
	if code := wantNewNetCode(wills, costs); code != impl.OK {
		checkNoNet(t, "NewNet("+brief(wills)+", "+brief(costs)+")", func() (impl.Net, int) { return impl.NewNet(wills, costs) }, code)
		return
	}
	want := netWith(len(wills), costs...)
	for i, will := range wills {
		want.Routers[i].Will = will
	}
	got, code := impl.NewNet(wills, costs)
	checkNet(t, "NewNet", got, code, want, impl.OK)
}

// Too many ahead of bad ahead of out of bounds, each over the whole of a list.
func TestPromise14NewNetsOutOfTheirBounds(t *testing.T) {
	for _, size := range []int{0, 1, 2, 3, 5, 6, 7, 8, 64, impl.MaxList, impl.MaxList + 1, 2 * impl.MaxList} {
		for _, count := range []int{0, 1, 4, 9, size - 1, size, size + 1, size * size, size*size - 1, size*size + 1, 36, 49, impl.MaxList, impl.MaxList + 1, 2 * impl.MaxList} {
			if count < 0 || count > 3*impl.MaxList {
				continue
			}
			for _, will := range []int{3, -1, 8} {
				for _, cost := range []int{0, 1, -1, 257} {
					wills, costs := slices.Repeat([]int{3}, size), make([]int, count)
					if size > 0 {
						wills[size-1] = will
					}
					if count > 1 {
						costs[count-2] = cost
					}
					checkNewNet(t, wills, costs)
				}
			}
		}
	}
	for _, x := range wildNetInts {
		for i := range 3 {
			wills := []int{3, 0, 7}
			wills[i] = x
			checkNewNet(t, wills, meshNet(3).Costs)
			checkNewNet(t, wills, slices.Repeat([]int{256}, 9))
			checkNewNet(t, wills, nil)
		}
		for i := range 9 {
			costs := meshNet(3).Costs
			costs[i] = x
			checkNewNet(t, []int{0, 3, 7}, costs)
			checkNewNet(t, []int{8, 3, 7}, costs)
		}
	}
	checkNewNet(t, nil, nil)
	checkNewNet(t, []int{}, []int{})
}

// rangeNets are right ones of one, two, three and six routers, some of them at their end or with a full air: a number
// that is out of its bounds comes ahead of these.
func rangeNets() []namedNet {
	return append(edgeNets()[:3], namedNet{"one", meshNet(1)}, namedNet{"two", meshNet(2)}, namedNet{"three", lineNet(3)}, namedNet{"a full air", fullPassing(maxAir)})
}

func TestPromise14RoutersOutOfTheirBounds(t *testing.T) {
	for _, c := range rangeNets() {
		size := len(c.n.Routers)
		isRouter := func(x int) bool { return 1 <= x && x <= size }
		for _, a := range wildNetInts {
			for _, b := range append([]int{1, 2, 3, 6}, a, 0, -1, 7, 8, math.MinInt, math.MaxInt) {
				what := c.name + " from " + strconv.Itoa(a) + " to " + strconv.Itoa(b)
				if !isRouter(a) || !isRouter(b) {
					checkCostCode(t, c.n, a, b, impl.ErrRange)
				}
				if !isRouter(a) || !isRouter(b) || a == b {
					checkNoNet(t, "SetCost of "+what, func() (impl.Net, int) { return impl.SetCost(c.n, a, b, 5) }, impl.ErrRange)
					checkNoNet(t, "Inject of "+what, func() (impl.Net, int) { return impl.Inject(c.n, a, b, nil) }, impl.ErrRange)
					checkNoNet(t, "Inject of "+what, func() (impl.Net, int) { return impl.Inject(c.n, a, b, make([]byte, 901)) }, impl.ErrRange)
				}
			}
			if !isRouter(a) {
				for _, seq := range []int{0, 65535, 65536, -1} {
					checkNoNet(t, "Restart of "+c.name, func() (impl.Net, int) { return impl.Restart(c.n, a, seq) }, impl.ErrRange)
				}
			}
		}
	}
}

func TestPromise14NumbersOutOfTheirBounds(t *testing.T) {
	for _, c := range rangeNets() {
		for _, x := range wildNetInts {
			word := strconv.Itoa(x) + " of " + c.name
			if (x < 0 || x > 256) && len(c.n.Routers) > 1 {
				checkNoNet(t, "SetCost "+word, func() (impl.Net, int) { return impl.SetCost(c.n, 1, 2, x) }, impl.ErrRange)
			}
			if x < 0 || x > 65535 {
				checkNoNet(t, "Restart "+word, func() (impl.Net, int) { return impl.Restart(c.n, 1, x) }, impl.ErrRange)
			}
			switch {
			case x < 0 || x > maxTicks:
				checkNoNet(t, "NetTicks "+word, func() (impl.Net, int) { return impl.NetTicks(c.n, x) }, impl.ErrRange)
			case c.n.Time+x > maxTick:
				got, code := impl.NetTicks(c.n, x)
				checkNet(t, "NetTicks "+word, got, code, c.n, impl.ErrEnd)
			default:
				checkNetTicks(t, word, c.n, x)
			}
			if x != 0 && x != 1 {
				for _, lose := range [][]int{{x}, {0, x}, {x, 1}, {0, 1, 0, x, 1}, append(make([]int, impl.MaxList-1), x)} {
					checkNoNet(t, "NetTick "+word, func() (impl.Net, int) { return impl.NetTick(c.n, lose) }, impl.ErrRange)
				}
			}
		}
		for _, size := range []int{901, 902, 4097, impl.MaxText} {
			if len(c.n.Routers) > 1 {
				checkNoNet(t, "Inject of "+c.name, func() (impl.Net, int) { return impl.Inject(c.n, 1, 2, make([]byte, size)) }, impl.ErrRange)
			}
		}
	}
}

// Too long is ahead of all else, of nets that are not right, too.
func TestPromise14LongListsAreLongAheadOfAll(t *testing.T) {
	for _, c := range slices.Concat(someWrongNets(), rangeNets()) {
		for _, size := range []int{impl.MaxList + 1, 2 * impl.MaxList} {
			for _, x := range []int{0, 1, 2, -1} {
				lose := slices.Repeat([]int{x}, size)
				checkNoNet(t, "NetTick of "+c.name, func() (impl.Net, int) { return impl.NetTick(c.n, lose) }, impl.ErrLong)
			}
		}
		for _, size := range []int{impl.MaxText + 1, 2 * impl.MaxText} {
			b := make([]byte, size)
			for _, to := range []int{2, 1, 0, 9, math.MinInt} {
				checkNoNet(t, "Inject of "+c.name, func() (impl.Net, int) { return impl.Inject(c.n, 1, to, b) }, impl.ErrLong)
			}
		}
	}
}
