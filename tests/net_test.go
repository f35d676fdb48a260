package tests

import (
	"slices"
	"strconv"
	"strings"
	"testing"

	"loop.example/g00419/impl"
)

const (
	maxRouters = 6
	maxAir     = 200
	maxFrame   = 900
	maxTicks   = 200
)

// netWith is a net at its beginning, whose routers all have Will 3. The costs are those of size routers.
func netWith(size int, costs ...int) impl.Net {
	n := impl.Net{Costs: costs}
	for addr := 1; addr <= size; addr++ {
		n.Routers = append(n.Routers, impl.Router{Addr: addr, Will: 3})
	}
	return n
}

// netBy has a way from a to b wherever cost says more than 0.
func netBy(size int, cost func(a, b int) int) impl.Net {
	var costs []int
	for a := 1; a <= size; a++ {
		for b := 1; b <= size; b++ {
			if a == b {
				costs = append(costs, 0)
			} else {
				costs = append(costs, cost(a, b))
			}
		}
	}
	return netWith(size, costs...)
}

func meshNet(size int) impl.Net {
	return netBy(size, func(a, b int) int { return 10*a + b })
}

func lineNet(size int) impl.Net {
	return netBy(size, func(a, b int) int {
		if a-b == 1 || b-a == 1 {
			return 10*a + b
		}
		return 0
	})
}

// roundNet has ways in one direction alone, from each to the next.
func roundNet(size int) impl.Net {
	return netBy(size, func(a, b int) int {
		if a%size+1 == b {
			return 256
		}
		return 0
	})
}

func silentNet(size int) impl.Net {
	return netBy(size, func(a, b int) int { return 0 })
}

// relayNet is at tick 10. Each hears each, all links are symmetric, and each has chosen all others: an advertisement
// that is new to a router is passed on, whoever it comes from.
func relayNet(size int) impl.Net {
	n := meshNet(size)
	n.Time = 10
	for i := range n.Routers {
		r := &n.Routers[i]
		r.Now, r.Seq = 10, 100*r.Addr
		for addr := 1; addr <= size; addr++ {
			if addr != r.Addr {
				r.Links = append(r.Links, symLink(addr))
				r.Selectors = append(r.Selectors, impl.Tuple{Key: addr, Until: 20})
			}
		}
		r.Last = wantAdvertised(*r)
	}
	return n
}

func frameOf(from, to, at int, list ...impl.Message) impl.Frame {
	return impl.Frame{From: from, To: to, At: at, Bytes: packetBytes(list)}
}

func clonedNet(n impl.Net) impl.Net {
	n.Routers, n.Costs, n.Air = slices.Clone(n.Routers), slices.Clone(n.Costs), slices.Clone(n.Air)
	for i, r := range n.Routers {
		n.Routers[i] = clonedRouter(r)
	}
	return n
}

func sameNet(a, b impl.Net) bool {
	return a.Time == b.Time && slices.Equal(a.Costs, b.Costs) && slices.Equal(a.Air, b.Air) && slices.EqualFunc(a.Routers, b.Routers, sameRouter)
}

func costIn(n impl.Net, a, b int) int {
	return n.Costs[(a-1)*len(n.Routers)+b-1]
}

// frameText tells who sends to whom, when it arrives, and what it is.
func frameText(f impl.Frame) string {
	text := strconv.Itoa(f.From) + ">" + strconv.Itoa(f.To) + "@" + strconv.Itoa(f.At)
	list, code := impl.DecodePacket([]byte(f.Bytes))
	if code != impl.OK {
		return text + " " + strconv.Quote(f.Bytes)
	}
	for _, m := range list {
		word, _ := impl.MessageText(m)
		text += " [" + word + "]"
	}
	return text
}

func airTexts(n impl.Net) []string {
	var list []string
	for _, f := range n.Air {
		list = append(list, frameText(f))
	}
	return list
}

// briefNet tells the beginning of lists that may be long.
func briefNet(n impl.Net) string {
	text := "at " + strconv.Itoa(n.Time) + ", costs " + brief(n.Costs) + ", air " + strconv.Itoa(len(n.Air)) + ": " + strings.Join(airTexts(impl.Net{Air: n.Air[:min(6, len(n.Air))]}), ", ")
	for _, r := range n.Routers[:min(7, len(n.Routers))] {
		text += "\n\t" + briefRouter(r)
	}
	return text
}

func checkNet(t *testing.T, what string, got impl.Net, code int, want impl.Net, wantCode int) {
	t.Helper()
	if !sameNet(got, want) || code != wantCode {
		t.Fatalf("%s = %s\ncode %d, not %s\ncode %d", what, briefNet(got), code, briefNet(want), wantCode)
	}
	if code == impl.OK && !impl.NetOK(got) {
		t.Fatalf("%s made a net that is not right: %s", what, briefNet(got))
	}
}

// A namedNet is a right one.
type namedNet struct {
	name string
	n    impl.Net
}

// beginnings are nets of one, two, some and the most routers, with ways in both directions, in one alone, and none.
func beginnings() []namedNet {
	return []namedNet{
		{"one router", meshNet(1)},
		{"two", netWith(2, 0, 4, 6, 0)},
		{"two, one way", netWith(2, 0, 4, 0, 0)},
		{"two, the other way", netWith(2, 0, 0, 6, 0)},
		{"two, no way", silentNet(2)},
		{"two, costs at their edges", netWith(2, 0, 1, 256, 0)},
		{"three in a line", lineNet(3)},
		{"three, each hears each", meshNet(3)},
		{"four, round in one direction", roundNet(4)},
		{"five in a line", lineNet(5)},
		{"six in a line", lineNet(6)},
		{"six, round in one direction", roundNet(6)},
		{"six, each hears each", meshNet(6)},
		{"six, no way", silentNet(6)},
	}
}

// plainNets are at their beginning, or have run for a while.
func plainNets() []namedNet {
	var list []namedNet
	for _, b := range beginnings() {
		list = append(list, b)
		n, at := b.n, 0
		for _, k := range []int{1, 2, 9, 25} {
			for ; at < k; at++ {
				n = wantNetTick(n, nil)
			}
			list = append(list, namedNet{b.name + " behind " + strconv.Itoa(k) + " ticks", n})
		}
	}
	return append(list, namedNet{"relays", relayNet(3)}, namedNet{"six relays", relayNet(6)})
}

// edgeNets have the least and the greatest of what a net may have.
func edgeNets() []namedNet {
	late := meshNet(6)
	late.Time = maxTick
	latest := clonedNet(late)
	for i := range latest.Routers {
		latest.Routers[i].Now = maxTick
	}
	frames := netWith(2, 0, 1, 256, 0)
	for i := range maxAir {
		frames.Air = append(frames.Air, impl.Frame{From: 1 + i%2, To: 2 - i%2, At: i / 2 % 2, Bytes: strings.Repeat("z", maxFrame*(i%3)/2)})
	}
	lateFrames := clonedNet(late)
	lateFrames.Air = []impl.Frame{{From: 1, To: 6, At: maxTick}, {From: 6, To: 1, At: maxTick + 1}}
	full := impl.Net{Time: 10, Costs: meshNet(6).Costs}
	for addr := 1; addr <= 6; addr++ {
		full.Routers = append(full.Routers, fullRouter(addr))
	}
	behind := clonedNet(full)
	behind.Time, behind.Routers[0].Now, behind.Routers[5].Now = 99999, 0, 99999
	return []namedNet{
		{"the greatest time", late}, {"the greatest time, of routers too", latest}, {"all frames", frames},
		{"frames at the greatest time", lateFrames}, {"full routers", full}, {"routers behind", behind},
		{"all costs at their greatest", netBy(6, func(a, b int) int { return 256 })},
		{"all costs at their least", netBy(6, func(a, b int) int { return 1 })},
	}
}

// net is a right one of drawn routers, with ways and frames that are drawn, too.
func (d *draws) net() impl.Net {
	size := 1 + d.next(maxRouters)
	var n impl.Net
	for addr := 1; addr <= size; addr++ {
		r := d.router()
		r.Addr = addr
		n.Routers = append(n.Routers, withoutOwn(r))
		n.Time = max(n.Time, r.Now+d.next(3))
	}
	d.ways(&n)
	for range d.next(40) {
		if size == 1 {
			break
		}
		from := 1 + d.next(size)
		to := 1 + (from+d.next(size-1))%size
		f := impl.Frame{From: from, To: to, At: n.Time + d.next(2), Bytes: d.text(d.next(40))}
		if d.next(8) > 0 {
			r := n.Routers[to-1]
			f.Bytes = packetBytes([]impl.Message{d.heardBy(r, from), d.heardBy(r, from)}[:1+d.next(2)])
		}
		n.Air = append(n.Air, f)
	}
	return n
}

// ways draws all costs anew: of some nets each way is there, of others none.
func (d *draws) ways(n *impl.Net) {
	size, often := len(n.Routers), d.next(6)
	n.Costs = make([]int, size*size)
	for i := range n.Costs {
		if i%(size+1) != 0 && d.next(5) < often {
			n.Costs[i] = 1 + d.next(256)
		}
	}
}

// busyNet is a relayNet whose air has many advertisements, most of which are new.
func (d *draws) busyNet(frames int) impl.Net {
	n := relayNet(2 + d.next(maxRouters-1))
	size := len(n.Routers)
	if d.next(2) == 0 {
		d.ways(&n)
	}
	for range frames {
		from := 1 + d.next(size)
		n.Air = append(n.Air, frameOf(from, 1+(from+d.next(size-1))%size, n.Time+d.next(2), tcFrom(7+d.next(2), d.next(80))))
	}
	return n
}

func rightNets() []namedNet {
	list := slices.Concat(plainNets(), edgeNets())
	d := &draws{139}
	for i := range 60 {
		list = append(list, namedNet{"drawn " + strconv.Itoa(i), d.net()}, namedNet{"busy " + strconv.Itoa(i), d.busyNet(d.next(maxAir + 1))})
	}
	return list
}

func TestPromise14NewNets(t *testing.T) {
	for size := 1; size <= maxRouters; size++ {
		for _, base := range []impl.Net{meshNet(size), silentNet(size), lineNet(size), roundNet(size)} {
			for will := range 8 {
				wills := make([]int, size)
				want := clonedNet(base)
				for i := range wills {
					wills[i] = (will + 3*i) % 8
					want.Routers[i].Will = wills[i]
				}
				n, code := impl.NewNet(wills, base.Costs)
				checkNet(t, "NewNet", n, code, want, impl.OK)
			}
		}
	}
}

func TestPromise14RightNetsAreRight(t *testing.T) {
	for _, c := range rightNets() {
		if !impl.NetOK(c.n) {
			t.Errorf("NetOK of %s: %s", c.name, briefNet(c.n))
		}
	}
}

func TestPromise14CostsAreAsked(t *testing.T) {
	n := netWith(3, 0, 2, 0, 4, 0, 5, 0, 256, 0)
	for _, c := range [][3]int{{1, 1, 0}, {1, 2, 2}, {1, 3, 0}, {2, 1, 4}, {2, 2, 0}, {2, 3, 5}, {3, 1, 0}, {3, 2, 256}, {3, 3, 0}} {
		if cost, code := impl.CostAt(n, c[0], c[1]); cost != c[2] || code != impl.OK {
			t.Errorf("CostAt(%d, %d) = %d, %d", c[0], c[1], cost, code)
		}
	}
	for _, c := range rightNets() {
		for a := range c.n.Routers {
			for b := range c.n.Routers {
				if cost, code := impl.CostAt(c.n, a+1, b+1); cost != costIn(c.n, a+1, b+1) || code != impl.OK {
					t.Errorf("CostAt of %s, %d, %d = %d, %d", c.name, a+1, b+1, cost, code)
				}
			}
		}
	}
}

// All else stays: the other costs, the way back among them, the routers, the air and the time.
func TestPromise14CostsAreSetAndTakenAway(t *testing.T) {
	for _, c := range rightNets() {
		size := len(c.n.Routers)
		for a := 1; a <= size; a++ {
			for b := 1; b <= size; b++ {
				if a == b {
					continue
				}
				for _, cost := range []int{0, 1, 128, 255, 256} {
					want := clonedNet(c.n)
					want.Costs[(a-1)*size+b-1] = cost
					got, code := impl.SetCost(c.n, a, b, cost)
					checkNet(t, "SetCost of "+c.name, got, code, want, impl.OK)
					if x, code := impl.CostAt(got, a, b); x != cost || code != impl.OK {
						t.Errorf("CostAt of %s, %d, %d = %d, %d, not %d", c.name, a, b, x, code, cost)
					}
					back, code := impl.SetCost(got, a, b, costIn(c.n, a, b))
					checkNet(t, "SetCost back of "+c.name, back, code, c.n, impl.OK)
				}
			}
		}
	}
}

func wantInject(n impl.Net, from, to int, b string) (impl.Net, int) {
	n = clonedNet(n)
	if len(n.Air) == maxAir {
		return n, impl.ErrFull
	}
	n.Air = append(n.Air, impl.Frame{From: from, To: to, At: n.Time + 1, Bytes: b})
	return n, impl.OK
}

// What is put into the air is the last there, whether there is a way or not.
func TestPromise14BytesArePutIntoTheAir(t *testing.T) {
	for _, c := range rightNets() {
		for a := range c.n.Routers {
			for b := range c.n.Routers {
				if a == b {
					continue
				}
				for _, bytes := range []string{"", "z", "\x00\xff", strings.Repeat("y", maxFrame-1), strings.Repeat("z", maxFrame)} {
					want, wantCode := wantInject(c.n, a+1, b+1, bytes)
					got, code := impl.Inject(c.n, a+1, b+1, []byte(bytes))
					checkNet(t, "Inject of "+c.name, got, code, want, wantCode)
				}
			}
		}
	}
}

func TestPromise14AnAirWithRoomForOneMoreAndWithout(t *testing.T) {
	n := netWith(2, 0, 4, 6, 0)
	for i := range maxAir + 3 {
		bytes := strconv.Itoa(i)
		want, wantCode := wantInject(n, 1+i%2, 2-i%2, bytes)
		if wantFull := i >= maxAir; wantFull != (wantCode == impl.ErrFull) {
			t.Fatal("at", i, wantCode)
		}
		got, code := impl.Inject(n, 1+i%2, 2-i%2, []byte(bytes))
		checkNet(t, "Inject at "+bytes, got, code, want, wantCode)
		n = got
	}
	if len(n.Air) != maxAir || n.Air[199] != (impl.Frame{From: 2, To: 1, At: 1, Bytes: "199"}) {
		t.Error("a full air:", briefNet(n))
	}
	// Behind a tick, which takes all out, there is room again.
	n = checkNetTick(t, "a full air", n, nil)
	got, code := impl.Inject(n, 1, 2, nil)
	want, _ := wantInject(n, 1, 2, "")
	checkNet(t, "Inject behind a tick", got, code, want, impl.OK)
}

func TestPromise14RoutersBeginAnew(t *testing.T) {
	for _, c := range rightNets() {
		for i, r := range c.n.Routers {
			for _, seq := range []int{0, 1, 32768, 65534, 65535} {
				want := clonedNet(c.n)
				want.Routers[i] = impl.Router{Addr: i + 1, Will: r.Will, Seq: seq, Ansn: seq, Now: r.Now}
				got, code := impl.Restart(c.n, i+1, seq)
				checkNet(t, "Restart of "+c.name, got, code, want, impl.OK)
				again, code := impl.Restart(got, i+1, seq)
				checkNet(t, "Restart twice of "+c.name, again, code, want, impl.OK)
			}
		}
	}
}

// A router that has begun anew is told of all again, and tells all others of itself with the numbers it was given.
func TestPromise14ARouterBeginsAnewInANetThatRuns(t *testing.T) {
	n := netWith(2, 0, 4, 6, 0)
	for range 40 {
		n = checkNetTick(t, "ahead", n, nil)
	}
	old := n.Routers[0]
	n, _ = impl.Restart(n, 1, 500)
	r := n.Routers[0]
	if len(old.Links) != 1 || len(old.Topology.Sources) != 1 || len(r.Links)+len(r.Dups)+len(r.Topology.Sources)+len(r.Last) != 0 || r.Now != 40 || r.Will != 3 {
		t.Errorf("begun anew: %v, was %v", r, old)
	}
	for range 20 {
		n = checkNetTick(t, "behind", n, nil)
	}
	lines, _ := impl.RouterText(n.Routers[0])
	if !slices.Equal(lines, []string{"2 sym 6 4", "2 by 2 cost 4 hops 1"}) || n.Routers[0].Ansn != 501 || n.Routers[0].Seq <= 510 || n.Routers[0].Seq > 520 {
		t.Errorf("20 ticks later: %q, %v", lines, n.Routers[0])
	}
	if x, code := impl.SourceOf(n.Routers[1].Topology, 1); x.Ansn != 501 || code != impl.OK {
		t.Errorf("what 2 has heard of it: %v, %d", x, code)
	}
}
