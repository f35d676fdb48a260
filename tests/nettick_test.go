package tests

import (
	"slices"
	"strconv"
	"strings"
	"testing"

	"loop.example/g00419/impl"
)

// A wantAir is filled during a tick by chapter 14's words.
type wantAir struct {
	n    *impl.Net
	lose []int
	sent int
}

func (a *wantAir) send(from int, packet string) {
	if packet == "" {
		return
	}
	for to := 1; to <= len(a.n.Routers); to++ {
		if costIn(*a.n, from, to) == 0 || len(a.n.Air) >= maxAir {
			continue
		}
		lost := len(a.lose) > 0 && a.lose[a.sent%len(a.lose)] == 1
		a.sent++
		if !lost {
			a.n.Air = append(a.n.Air, impl.Frame{From: from, To: to, At: a.n.Time + 1, Bytes: packet})
		}
	}
}

// wantNetTick goes by chapter 14's words, one after the other: what arrives, then the routers' ticks.
func wantNetTick(n impl.Net, lose []int) impl.Net {
	old := n.Air
	n.Routers, n.Air, n.Time = slices.Clone(n.Routers), nil, n.Time+1
	air := &wantAir{n: &n, lose: lose}
	for _, f := range old {
		cost := costIn(n, f.From, f.To)
		if cost == 0 {
			continue
		}
		to := &n.Routers[f.To-1]
		list, code := impl.DecodePacket([]byte(f.Bytes))
		if code != impl.OK {
			*to = oneMoreError(*to)
			continue
		}
		r, out := wantHearing(*to, f.From, cost, list)
		*to = r
		air.send(f.To, wantPacket(out))
	}
	for i := range n.Routers {
		r, out := wantTicked(n.Routers[i])
		n.Routers[i] = r
		air.send(i+1, wantPacket(out))
	}
	return n
}

func checkNetTick(t *testing.T, what string, n impl.Net, lose []int) impl.Net {
	t.Helper()
	got, code := impl.NetTick(n, lose)
	checkNet(t, "NetTick of "+what, got, code, wantNetTick(n, lose), impl.OK)
	return got
}

// checkNetTicks holds ticks at once against ticks one by one.
func checkNetTicks(t *testing.T, what string, n impl.Net, k int) impl.Net {
	t.Helper()
	want := n
	for range k {
		x, code := impl.NetTick(want, nil)
		if code != impl.OK {
			t.Fatalf("NetTick of %s at %d: code %d", what, want.Time, code)
		}
		want = x
	}
	got, code := impl.NetTicks(n, k)
	checkNet(t, strconv.Itoa(k)+" NetTicks of "+what, got, code, want, impl.OK)
	return got
}

func checkAir(t *testing.T, what string, n impl.Net, want ...string) {
	t.Helper()
	if got := airTexts(n); !slices.Equal(got, want) {
		t.Errorf("%s: in the air are\n%s\nnot\n%s", what, strings.Join(got, "\n"), strings.Join(want, "\n"))
	}
}

// eachLoss has what may be lost: nothing, all, some; what goes round often, and what is longer than a tick needs.
func eachLoss() [][]int {
	late := make([]int, impl.MaxList)
	late[0], late[3], late[7], late[11], late[impl.MaxList-1] = 1, 1, 1, 1, 1
	return [][]int{
		nil, {}, {0}, {0, 0, 0}, {1}, {1, 1}, {0, 1}, {1, 0}, {0, 0, 1}, {1, 0, 0}, {1, 1, 0}, {0, 1, 0, 0, 1},
		{1, 0, 0, 0, 0, 0, 0}, {0, 0, 0, 0, 0, 0, 1}, late, make([]int, impl.MaxList), slices.Repeat([]int{1}, impl.MaxList),
	}
}

func TestPromise14TicksOfOneRouter(t *testing.T) {
	n := meshNet(1)
	for at := 1; at <= 30; at++ {
		n = checkNetTick(t, "one router", n, nil)
		if n.Time != at || n.Routers[0].Now != at || len(n.Air) != 0 {
			t.Fatalf("one router at %d: %s", at, briefNet(n))
		}
	}
	// 15 hellos and 6 advertisements, which nobody hears.
	if n.Routers[0].Seq != 21 || n.Routers[0].Errors != 0 {
		t.Error("one router:", briefNet(n))
	}
}

func TestPromise14TwoRoutersTickByTick(t *testing.T) {
	n := netWith(2, 0, 4, 6, 0)
	for i, want := range [][]string{
		{"1>2@2 [hello 1 0 1 0 3]"},
		{"2>1@3 [hello 2 0 1 0 7]"},
		{"1>2@4 [hello 1 1 1 0 7]", "2>1@4 [tc 2 1 255 0 4]"},
		{"1>2@5 [tc 1 2 255 0 7]", "2>1@5 [hello 2 2 1 0 7]"},
		{"1>2@6 [hello 1 3 1 0 7]"},
		{"2>1@7 [hello 2 3 1 0 7]"},
		{"1>2@8 [hello 1 4 1 0 7]"},
		{"2>1@9 [hello 2 4 1 0 7] [tc 2 5 255 0 7]"},
		{"1>2@10 [hello 1 5 1 0 7] [tc 1 6 255 0 7]"},
	} {
		n = checkNetTick(t, "two", n, nil)
		checkAir(t, "two at "+strconv.Itoa(i+1), n, want...)
	}
	for i, want := range [][]string{{"2 sym 6 4", "2 by 2 cost 4 hops 1"}, {"1 sym 4 6", "1 by 1 cost 6 hops 1"}} {
		if lines, _ := impl.RouterText(n.Routers[i]); !slices.Equal(lines, want) {
			t.Errorf("%d at 9: %q", i+1, lines)
		}
	}
}

// Who is heard, but hears nobody, sends to others and gets nothing.
func TestPromise14WaysInOneDirection(t *testing.T) {
	n := netWith(2, 0, 4, 0, 0)
	for range 30 {
		n = checkNetTick(t, "one way", n, nil)
		for _, f := range n.Air {
			if f.From != 1 || f.To != 2 {
				t.Fatal("one way:", frameText(f))
			}
		}
	}
	if lines, _ := impl.RouterText(n.Routers[1]); !slices.Equal(lines, []string{"1 heard 4 0"}) || len(n.Routers[0].Links) != 0 {
		t.Error("one way:", briefNet(n))
	}
	n = silentNet(6)
	for range 30 {
		n = checkNetTick(t, "no way", n, nil)
		if len(n.Air) != 0 {
			t.Fatal("no way:", airTexts(n))
		}
	}
}

// What is due is sent to each to whom there is a way, by the addresses of those who send, then of those who hear.
func TestPromise14WhoIsSentToAndInWhichOrder(t *testing.T) {
	n := netWith(4,
		0, 9, 0, 1,
		2, 0, 2, 2,
		0, 0, 0, 7,
		5, 6, 7, 0)
	n = checkNetTick(t, "four", n, nil)
	checkAir(t, "four at 1", n, "1>2@2 [hello 1 0 1 0 3]", "1>4@2 [hello 1 0 1 0 3]", "3>4@2 [hello 3 0 1 0 3]",
		"4>1@2 [tc 4 0 255 0 4]", "4>2@2 [tc 4 0 255 0 4]", "4>3@2 [tc 4 0 255 0 4]")
	n = checkNetTick(t, "four", n, nil)
	checkAir(t, "four at 2", n, "2>1@3 [hello 2 0 1 0 7]", "2>3@3 [hello 2 0 1 0 7]", "2>4@3 [hello 2 0 1 0 7]",
		"3>4@3 [tc 3 1 255 0 4]", "4>1@3 [hello 4 1 1 0 11]", "4>2@3 [hello 4 1 1 0 11]", "4>3@3 [hello 4 1 1 0 11]")
	for i, want := range [][]string{nil, {"1 heard 9 0"}, nil, {"1 heard 1 0", "3 heard 7 0"}} {
		if lines, _ := impl.RouterText(n.Routers[i]); !slices.Equal(lines, want) {
			t.Errorf("%d at 2: %q", i+1, lines)
		}
	}
}

// passingNet has in its air what three relays pass on, one of them twice, and one no more.
func passingNet() impl.Net {
	n := relayNet(3)
	n.Air = []impl.Frame{
		frameOf(1, 2, 11, tcFrom(8, 1)),
		frameOf(3, 1, 10, tcFrom(8, 2)),
		{From: 2, To: 1, At: 11, Bytes: "zz"},
		frameOf(1, 2, 11, tcFrom(7, 3), tcFrom(8, 3)),
		frameOf(2, 3, 11, tcFrom(8, 1)),
		frameOf(1, 3, 10, tcFrom(8, 1)),
	}
	return n
}

var passedTexts = []string{
	"2>1@12 [tc 8 1 8 3 4]", "2>3@12 [tc 8 1 8 3 4]",
	"1>2@12 [tc 8 2 8 3 4]", "1>3@12 [tc 8 2 8 3 4]",
	"2>1@12 [tc 7 3 8 3 4] [tc 8 3 8 3 4]", "2>3@12 [tc 7 3 8 3 4] [tc 8 3 8 3 4]",
	"3>1@12 [tc 8 1 8 3 4]", "3>2@12 [tc 8 1 8 3 4]",
	"1>2@12 [hello 1 100 1 0 11]", "1>3@12 [hello 1 100 1 0 11]",
	"3>1@12 [hello 3 300 1 0 11]", "3>2@12 [hello 3 300 1 0 11]",
}

// What is passed on is sent in the order in which it arrived, whoever passes it on, and ahead of all that is due.
func TestPromise14WhatIsPassedOnInTheSameTick(t *testing.T) {
	n := checkNetTick(t, "relays", passingNet(), nil)
	checkAir(t, "relays at 11", n, passedTexts...)
	for i, want := range []int{1, 0, 0} {
		if n.Routers[i].Errors != want {
			t.Errorf("%d has %d errors", i+1, n.Routers[i].Errors)
		}
	}
	// 2 hears of number 2 from 1, its own number 1 comes back to it: it was passed on.
	n = checkNetTick(t, "relays", n, nil)
	if x := airTexts(n); !slices.Contains(x, "2>1@13 [tc 8 2 7 4 4]") || slices.ContainsFunc(x, func(s string) bool { return strings.Contains(s, "2>3@13 [tc 8 1 ") }) {
		t.Error("relays at 12:", x)
	}
}

// In a tick a router hears what arrives ahead of its own tick: at the time that it had, and with what the way costs.
func TestPromise14WhatArrivesIsHeardAheadOfTheTick(t *testing.T) {
	n := netWith(2, 0, 4, 6, 0)
	n.Time, n.Routers[1].Now = 10, 3
	n.Air = []impl.Frame{frameOf(1, 2, 10, helloFrom(1, symNeighbor(2, 30)))}
	n = checkNetTick(t, "one at its own time", n, nil)
	if want := (impl.Link{Addr: 1, Heard: 11, Sym: 11, In: 4, Out: 30, Will: 6}); n.Time != 11 || n.Routers[1].Now != 4 || len(n.Routers[1].Links) != 1 || n.Routers[1].Links[0] != want {
		t.Error("heard at 3:", briefNet(n))
	}
	// Its hello is due at 4, and has what arrived in this tick; the one of 1 was due at 1.
	checkAir(t, "at 11", n, "1>2@12 [hello 1 0 1 0 3]", "2>1@12 [hello 2 0 1 0 7]")
}

// What is in the air arrives in its order: of two hellos the later one counts.
func TestPromise14WhatIsInTheAirArrivesInItsOrder(t *testing.T) {
	first, second := helloFrom(1, symNeighbor(2, 30)), helloFrom(1, symNeighbor(2, 40))
	for _, c := range []struct {
		list []impl.Message
		want int
	}{{[]impl.Message{first, second}, 40}, {[]impl.Message{second, first}, 30}, {[]impl.Message{first, second, first}, 30}} {
		for at := range 4 {
			n := netWith(3, 0, 4, 5, 6, 0, 7, 8, 9, 0)
			for i, m := range c.list {
				n.Air = append(n.Air, frameOf(1, 2, (at>>i)%2, m), frameOf(3, 2, 1, helloFrom(3)), frameOf(1, 3, 0, m))
			}
			n = checkNetTick(t, "hellos in turn", n, nil)
			if x := linkAt(n.Routers[1].Links, 1); x.Out != c.want {
				t.Errorf("hellos %v: %v", c.list, x)
			}
		}
	}
}

// All that is in the air is taken out, also what arrives nowhere: no error is counted of it.
func TestPromise14FramesOverWaysThatAreNotThere(t *testing.T) {
	n := netWith(3, 0, 4, 0, 6, 0, 5, 0, 7, 0)
	n.Air = []impl.Frame{{From: 1, To: 3, Bytes: "zz"}, frameOf(3, 1, 1, helloFrom(3)), {From: 1, To: 2, Bytes: "zz"}}
	n = checkNetTick(t, "no way", n, nil)
	if n.Routers[0].Errors != 0 || n.Routers[1].Errors != 1 || n.Routers[2].Errors != 0 || len(n.Routers[0].Links) != 0 {
		t.Error("over no way:", briefNet(n))
	}
	checkAir(t, "at 1", n, "1>2@2 [hello 1 0 1 0 3]", "3>2@2 [hello 3 0 1 0 3]")
	// The way from 1 goes while something is on it; the one from 3 costs more by then.
	n, _ = impl.SetCost(n, 1, 2, 0)
	n, _ = impl.SetCost(n, 3, 2, 200)
	n = checkNetTick(t, "a way goes", n, nil)
	if x := n.Routers[1].Links; len(x) != 1 || x[0].Addr != 3 || x[0].In != 200 {
		t.Error("a way goes:", x)
	}
	// The way comes back: the next hello is heard.
	n, _ = impl.SetCost(n, 1, 2, 9)
	n = checkNetTick(t, "a way is back", n, nil)
	n = checkNetTick(t, "a way is back", n, nil)
	if x := n.Routers[1].Links; len(x) != 2 || x[0].In != 9 {
		t.Error("a way is back:", x)
	}
	// What comes by a way that goes is passed on to nobody.
	n = passingNet()
	n, _ = impl.SetCost(n, 1, 2, 0)
	n = checkNetTick(t, "a way of relays goes", n, nil)
	checkAir(t, "a way of relays goes", n, slices.Concat(passedTexts[3:4], passedTexts[6:8], passedTexts[9:])...)
}

func TestPromise14WhichFrameIsLost(t *testing.T) {
	for i := range passedTexts {
		for _, size := range []int{len(passedTexts), len(passedTexts) + 1, impl.MaxList} {
			lose := make([]int, size)
			lose[i] = 1
			n := checkNetTick(t, "relays", passingNet(), lose)
			checkAir(t, "lost is "+strconv.Itoa(i), n, slices.Delete(slices.Clone(passedTexts), i, i+1)...)
		}
	}
	for size := 1; size <= 14; size++ {
		for i := range size {
			lose := make([]int, size)
			lose[i] = 1
			var want []string
			for j, text := range passedTexts {
				if j%size != i {
					want = append(want, text)
				}
			}
			n := checkNetTick(t, "relays", passingNet(), lose)
			checkAir(t, "lost is each "+strconv.Itoa(i)+" of "+strconv.Itoa(size), n, want...)
		}
	}
	for _, lose := range eachLoss() {
		n := checkNetTick(t, "relays", passingNet(), lose)
		var want []string
		for j, text := range passedTexts {
			if len(lose) == 0 || lose[j%len(lose)] == 0 {
				want = append(want, text)
			}
		}
		checkAir(t, "lost by "+brief(lose), n, want...)
	}
}

// The first frame of each tick is number 0 again; what is lost changes nothing of those who sent it.
func TestPromise14EachTickIsCountedAnew(t *testing.T) {
	n := netWith(3, 0, 4, 5, 6, 0, 7, 8, 9, 0)
	lose := []int{1, 0, 0, 0, 0, 0, 0}
	for range 20 {
		plain := wantNetTick(n, nil)
		got := checkNetTick(t, "three", n, lose)
		if len(plain.Air) > 0 && !slices.Equal(got.Air, plain.Air[1:]) || !slices.EqualFunc(got.Routers, plain.Routers, sameRouter) {
			t.Fatal("one lost at", n.Time, airTexts(got), airTexts(plain))
		}
		n = got
	}
}

// Who hears nothing, as all is lost, has nobody.
func TestPromise14AllIsLost(t *testing.T) {
	for _, c := range beginnings() {
		n := c.n
		for range 12 {
			n = checkNetTick(t, c.name, n, []int{1})
			if len(n.Air) != 0 {
				t.Fatal("all is lost:", airTexts(n))
			}
		}
		for _, r := range n.Routers {
			if len(r.Links) != 0 {
				t.Fatal("all is lost:", briefNet(n))
			}
		}
	}
}

// fullPassing has as many frames as six relays are told to pass on, each of them new to who hears it.
func fullPassing(frames int) impl.Net {
	n := relayNet(6)
	for i := range frames {
		n.Air = append(n.Air, frameOf(1+i%6, 1+(i+1)%6, 11, tcFrom(8, i)))
	}
	return n
}

// Of a full air all is heard and marked, and as long as there is room what is passed on is sent.
func TestPromise14AFullAir(t *testing.T) {
	n := checkNetTick(t, "a full air", fullPassing(maxAir), nil)
	if len(n.Air) != maxAir {
		t.Fatal("a full air:", len(n.Air))
	}
	for i, f := range n.Air {
		from := 1 + (i/5+1)%6
		to := 1 + i%5
		if to >= from {
			to++
		}
		if want := strconv.Itoa(from) + ">" + strconv.Itoa(to) + "@12 [tc 8 " + strconv.Itoa(i/5) + " 8 3 4]"; frameText(f) != want {
			t.Fatalf("at %d of a full air: %s, not %s", i, frameText(f), want)
		}
	}
	marks, numbers := 0, 0
	for _, r := range n.Routers {
		marks += len(chosen(r.Dups, func(x impl.Tuple) bool { return x.Value == 1 }))
		numbers += r.Seq - 100*r.Addr
	}
	// At 11 hellos of 1, 3 and 5 are due, and an advertisement of 4.
	if marks != maxAir || numbers != 4 {
		t.Errorf("%d marks, %d numbers taken", marks, numbers)
	}
}

// At 11 hellos of 1, 3 and 5 are due, and an advertisement of 4: twenty frames, behind five of each that is passed on.
func TestPromise14TheLastRoomOfTheAir(t *testing.T) {
	due := []string{
		"1>2", "1>3", "1>4", "1>5", "1>6", "3>1", "3>2", "3>4", "3>5", "3>6",
		"4>1", "4>2", "4>3", "4>5", "4>6", "5>1", "5>2", "5>3", "5>4", "5>6",
	}
	for passed := 35; passed <= 40; passed++ {
		for lost := range 7 {
			lose := make([]int, 300)
			for i := range lost {
				lose[25*i] = 1
			}
			n := checkNetTick(t, "the last room", fullPassing(passed), lose)
			ahead := 5*passed - lost
			var last []string
			for _, f := range n.Air[ahead:] {
				last = append(last, frameText(f)[:3])
			}
			if want := due[:min(len(due), maxAir-ahead)]; !slices.Equal(last, want) {
				t.Errorf("%d passed on, %d lost: the last ones are %v, not %v", passed, lost, last, want)
			}
		}
	}
}

// What is lost takes no room: with each second one lost twice as many are passed on.
func TestPromise14WhatIsLostTakesNoRoom(t *testing.T) {
	for _, lose := range eachLoss() {
		checkNetTick(t, "a full air", fullPassing(maxAir), lose)
	}
	n := checkNetTick(t, "a full air", fullPassing(maxAir), []int{0, 1})
	if len(n.Air) != maxAir || frameText(n.Air[199])[7:] != "[tc 8 79 8 3 4]" {
		t.Errorf("each second one lost: %d, the last one %s", len(n.Air), frameText(n.Air[len(n.Air)-1]))
	}
	n = checkNetTick(t, "a full air", fullPassing(maxAir), []int{1, 1, 1, 1, 1, 0})
	if len(n.Air) != 170 {
		t.Errorf("five of six lost: %d", len(n.Air))
	}
}

func TestPromise14TicksOfRightNets(t *testing.T) {
	for _, c := range rightNets() {
		if c.n.Time == maxTick {
			continue
		}
		for _, lose := range eachLoss() {
			checkNetTick(t, c.name, c.n, lose)
		}
	}
}

func TestPromise14DrawnNets(t *testing.T) {
	d := &draws{140}
	passed, errors := 0, 0
	for range 500 {
		n := d.net()
		lose := make([]int, d.next(12))
		for i := range lose {
			lose[i] = d.next(2)
		}
		x := checkNetTick(t, "a drawn one", n, lose)
		for i := range n.Routers {
			errors += x.Routers[i].Errors - n.Routers[i].Errors
			passed += len(chosen(x.Routers[i].Dups, func(x impl.Tuple) bool { return x.Value == 1 && x.Until > n.Time }))
		}
		checkNetTick(t, "a busy one", d.busyNet(d.next(maxAir+1)), lose)
	}
	if passed < 100 || errors < 100 {
		t.Error("too few of one kind to tell anything:", passed, errors)
	}
}

func TestPromise14TicksAtOnceAreTicksOneByOne(t *testing.T) {
	for _, c := range rightNets() {
		if c.n.Time == maxTick {
			continue
		}
		for _, k := range []int{0, 1, 2, 7} {
			if c.n.Time+k <= maxTick {
				checkNetTicks(t, c.name, c.n, k)
			}
		}
	}
	for _, c := range beginnings() {
		x := checkNetTicks(t, c.name, c.n, maxTicks)
		if x.Time != maxTicks {
			t.Errorf("%s: at %d", c.name, x.Time)
		}
		for _, k := range []int{0, 1, 45, 199, 200} {
			y, _ := impl.NetTicks(c.n, k)
			got, code := impl.NetTicks(y, maxTicks-k)
			checkNet(t, "NetTicks in two pieces of "+c.name, got, code, x, impl.OK)
		}
	}
}

// Without a loss: NetTicks is as NetTick without a lose, and with one of noughts.
func TestPromise14TicksAtOnceLoseNothing(t *testing.T) {
	for _, c := range beginnings() {
		n := c.n
		for range 40 {
			n = wantNetTick(n, nil)
		}
		got, code := impl.NetTicks(c.n, 40)
		checkNet(t, "NetTicks of "+c.name, got, code, n, impl.OK)
	}
}

func TestPromise14TimeAtItsGreatest(t *testing.T) {
	for _, c := range slices.Concat(beginnings(), []namedNet{{"relays", relayNet(3)}}) {
		n := clonedNet(c.n)
		n.Time = maxTick - 1
		if len(n.Routers) > 1 {
			n.Air = []impl.Frame{{From: 1, To: 2, At: maxTick, Bytes: "zz"}}
			n.Routers[1].Now = maxTick - 1
		}
		last := checkNetTick(t, c.name, n, nil)
		if last.Time != maxTick || !impl.NetOK(last) {
			t.Errorf("%s at its end: %s", c.name, briefNet(last))
		}
		for _, lose := range eachLoss() {
			got, code := impl.NetTick(last, lose)
			checkNet(t, "NetTick at the end of "+c.name, got, code, last, impl.ErrEnd)
		}
		for _, k := range []int{1, 2, 199, 200} {
			got, code := impl.NetTicks(last, k)
			checkNet(t, "NetTicks at the end of "+c.name, got, code, last, impl.ErrEnd)
		}
		checkNetTicks(t, c.name+" at its end", last, 0)
		got, code := impl.NetTicks(n, 2)
		checkNet(t, "NetTicks beyond the end of "+c.name, got, code, n, impl.ErrEnd)
		if x := checkNetTicks(t, c.name, n, 1); !sameNet(x, last) {
			t.Errorf("%s: one at once at its end: %s", c.name, briefNet(x))
		}
	}
	n := netWith(2, 0, 4, 6, 0)
	n.Time = maxTick - maxTicks
	if x := checkNetTicks(t, "two", n, maxTicks); x.Time != maxTick {
		t.Error("the last 200 ticks:", briefNet(x))
	}
	n.Time++
	got, code := impl.NetTicks(n, maxTicks)
	checkNet(t, "one too many", got, code, n, impl.ErrEnd)
	// At its end a net's costs, air and routers may still change.
	n.Time = maxTick
	got, code = impl.Inject(n, 1, 2, nil)
	want, _ := wantInject(n, 1, 2, "")
	checkNet(t, "Inject at the end", got, code, want, impl.OK)
}

// Whatever is done with a net, it stays right.
func TestPromise14NetsLiveForLong(t *testing.T) {
	d := &draws{141}
	for _, c := range beginnings() {
		n, size := c.n, len(c.n.Routers)
		for range 150 {
			a, b := 1+d.next(size), 1+d.next(size)
			switch d.next(8) {
			case 0:
				if x, code := impl.SetCost(n, a, b, d.next(2)*d.next(257)); code == impl.OK {
					n = x
				}
			case 1:
				n, _ = impl.Restart(n, a, d.number())
			case 2:
				if x, code := impl.Inject(n, a, b, []byte(packetBytes([]impl.Message{d.heardBy(n.Routers[b-1], a)}))); code == impl.OK {
					n = x
				}
			case 3:
				n = checkNetTicks(t, c.name, n, d.next(6))
			default:
				n = checkNetTick(t, c.name, n, [][]int{nil, {1}, {0, 1}, {1, 0, 0}}[d.next(4)])
			}
			if !impl.NetOK(n) {
				t.Fatalf("%s is right no more: %s", c.name, briefNet(n))
			}
		}
	}
}
