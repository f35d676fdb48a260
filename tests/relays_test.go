package tests

import (
	"slices"
	"testing"

	"loop.example/g00419/impl"
)

// keysTwo has two-hop neighbors with these keys until 30, each told with metric 1.
func keysTwo(keys ...int) []impl.Tuple {
	var list []impl.Tuple
	for _, key := range keys {
		list = append(list, impl.Tuple{Key: key, Until: 30, Value: 1})
	}
	return list
}

// willLinks has a link of each address and the Will behind it, symmetric until 20.
func willLinks(pairs ...int) []impl.Link {
	var list []impl.Link
	for i := 0; i < len(pairs); i += 2 {
		x := symLink(pairs[i])
		x.Will = pairs[i+1]
		list = append(list, x)
	}
	return list
}

// closeLinks are mostly symmetric, and have few different costs and Wills, so that ties are frequent.
func (d *draws) closeLinks() []impl.Link {
	wills := []int{0, 1, 3, 3, 3, 4, 4, 7}
	of := 1 + d.next(6)
	var list []impl.Link
	for addr := 1; addr <= 8; addr++ {
		if d.next(6) >= of {
			continue
		}
		x := impl.Link{Addr: addr, Heard: 20, Sym: 20, In: 1 + d.next(4), Will: wills[d.next(7+d.next(2))]}
		switch d.next(12) {
		case 0:
			x.Heard = 9 + d.next(3)
		case 1:
			x.Sym = 9 + d.next(3)
		}
		list = append(list, x)
	}
	return list
}

// closeTwo are mostly not over at 10, and have few different metrics.
func (d *draws) closeTwo() []impl.Tuple {
	list := d.two()
	for i := range list {
		list[i].Until, list[i].Value = 30, d.next(4)
		if d.next(10) == 0 {
			list[i].Until = 9 + d.next(3)
		}
	}
	return list
}

// relayList has addresses, perhaps one at several places, and perhaps what is no address.
func (d *draws) relayList() []int {
	var list []int
	for range d.next(9) {
		list = append(list, 1+d.next(8))
	}
	if len(list) > 0 && d.next(4) == 0 {
		list[d.next(len(list))] = wildLinkInts[d.next(len(wildLinkInts))]
	}
	return list
}

func wantReach(two []impl.Tuple, links []impl.Link, me, now, addr int) []int {
	var want []int
	for _, far := range wantStrict(two, links, me, now) {
		if slices.Contains(wantViaOf(two, links, far, now), addr) {
			want = append(want, far)
		}
	}
	return want
}

// wantLeft are those of StrictTwo that none of mprs reaches.
func wantLeft(two []impl.Tuple, links []impl.Link, me, now int, mprs []int) []int {
	var want []int
	for _, far := range wantStrict(two, links, me, now) {
		vias := wantViaOf(two, links, far, now)
		if !slices.ContainsFunc(mprs, func(addr int) bool { return slices.Contains(vias, addr) }) {
			want = append(want, far)
		}
	}
	return want
}

// wantBest takes the links of the most that are left, of these those of the greatest Will, and so on.
func wantBest(two []impl.Tuple, links []impl.Link, me, now int, left []int) int {
	best := links
	for _, worth := range []func(impl.Link) int{
		func(x impl.Link) int {
			reach := wantReach(two, links, me, now, x.Addr)
			return len(slices.DeleteFunc(reach, func(far int) bool { return !slices.Contains(left, far) }))
		},
		func(x impl.Link) int { return x.Will },
		func(x impl.Link) int { return len(wantReach(two, links, me, now, x.Addr)) },
		func(x impl.Link) int { return -x.Addr },
	} {
		most := worth(best[0])
		for _, x := range best {
			most = max(most, worth(x))
		}
		best = slices.DeleteFunc(slices.Clone(best), func(x impl.Link) bool { return worth(x) < most })
	}
	return best[0].Addr
}

func wantFlood(two []impl.Tuple, links []impl.Link, me, now int) []int {
	var mprs []int
	for _, x := range links {
		if wantStatus(x, now) == 2 && x.Will == 7 {
			mprs = append(mprs, x.Addr)
		}
	}
	for _, far := range wantStrict(two, links, me, now) {
		if vias := wantViaOf(two, links, far, now); len(vias) == 1 {
			mprs = append(mprs, vias[0])
		}
	}
	for left := wantLeft(two, links, me, now, mprs); len(left) > 0; left = wantLeft(two, links, me, now, mprs) {
		mprs = append(mprs, wantBest(two, links, me, now, left))
	}
	slices.Sort(mprs)
	return slices.Compact(mprs)
}

func wantNeedless(two []impl.Tuple, links []impl.Link, me, now int, mprs []int) []int {
	var want []int
	for i, addr := range mprs {
		if len(wantLeft(two, links, me, now, slices.Delete(slices.Clone(mprs), i, i+1))) == 0 {
			want = append(want, addr)
		}
	}
	return want
}

// checkFlood asks for the relays, and that they are willing symmetric neighbors that cover.
func checkFlood(t *testing.T, two []impl.Tuple, links []impl.Link, me, now int) {
	t.Helper()
	got, code := impl.FloodMprs(two, links, me, now)
	if want := wantFlood(two, links, me, now); !slices.Equal(got, want) || code != impl.OK {
		t.Fatalf("FloodMprs(%v, %v, %d, %d) = %v, %d, not %v", two, links, me, now, got, code, want)
	}
	for _, addr := range got {
		if x, code := impl.LinkFind(links, addr); code != impl.OK || impl.StatusOf(x, now) != impl.StSym || x.Will == impl.WillNever {
			t.Fatalf("FloodMprs(%v, %v, %d, %d) = %v: %d is no willing symmetric neighbor", two, links, me, now, got, addr)
		}
	}
	if ok, code := impl.Covers(two, links, me, now, got); !ok || code != impl.OK {
		t.Fatalf("FloodMprs(%v, %v, %d, %d) = %v, which do not cover: %v, %d", two, links, me, now, got, ok, code)
	}
}

func checkDegree(t *testing.T, two []impl.Tuple, links []impl.Link, me, now, addr int) {
	t.Helper()
	if n, code := impl.Degree(two, links, me, now, addr); n != len(wantReach(two, links, me, now, addr)) || code != impl.OK {
		t.Fatalf("Degree(%v, %v, %d, %d, %d) = %d, %d", two, links, me, now, addr, n, code)
	}
}

// checkReached asks of a list of relays whether they cover, and which of them are needless.
func checkReached(t *testing.T, two []impl.Tuple, links []impl.Link, me, now int, mprs []int) {
	t.Helper()
	if ok, code := impl.Covers(two, links, me, now, mprs); ok != (len(wantLeft(two, links, me, now, mprs)) == 0) || code != impl.OK {
		t.Fatalf("Covers(%v, %v, %d, %d, %v) = %v, %d", two, links, me, now, mprs, ok, code)
	}
	if got, code := impl.Needless(two, links, me, now, mprs); !slices.Equal(got, wantNeedless(two, links, me, now, mprs)) || code != impl.OK {
		t.Fatalf("Needless(%v, %v, %d, %d, %v) = %v, %d", two, links, me, now, mprs, got, code)
	}
}

// checkFloodAt asks all that chapter 9 tells of relays for floods, at one time.
func checkFloodAt(t *testing.T, two []impl.Tuple, links []impl.Link, me, now int) {
	t.Helper()
	checkFlood(t, two, links, me, now)
	for addr := -1; addr <= 10; addr++ {
		checkDegree(t, two, links, me, now, addr)
	}
	for _, mprs := range [][]int{nil, {1}, {8}, {2, 3}, {2, 2}, {3, 2, 3}, {1, 2, 3, 4, 5, 6, 7, 8}, {8, 7, 6, 5, 4, 4, 4, 4}, {0, 9, -1}, wantFlood(two, links, me, now)} {
		checkReached(t, two, links, me, now, mprs)
	}
}

// Of us, 1: who is chosen by which rule.
func TestPromise9FloodRelaysByHand(t *testing.T) {
	for _, c := range []struct {
		what  string
		two   []impl.Tuple
		links []impl.Link
		want  []int
	}{
		{"nobody is two hops away", nil, willLinks(2, 3, 3, 6), nil},
		{"there is no link", keysTwo(205, 306), nil, nil},
		{"nobody at all", nil, nil, nil},
		{"we alone are two hops away", keysTwo(201, 301), willLinks(2, 3, 3, 3), nil},
		{"who is two hops away is a neighbor", keysTwo(203, 302), willLinks(2, 3, 3, 3), nil},
		{"who is two hops away is a neighbor that is not willing", keysTwo(203), willLinks(2, 3, 3, 0), nil},
		{"the only one is not willing", keysTwo(205), willLinks(2, 0), nil},
		{"one relay", keysTwo(205), willLinks(2, 3), []int{2}},
		{"one relay of the least Will", keysTwo(205), willLinks(2, 1), []int{2}},
		{"one relay of two, as the other one is not willing", keysTwo(205, 305), willLinks(2, 0, 3, 1), []int{3}},
		{"the least and the greatest address", keysTwo(105, 806), willLinks(1, 3, 8, 3), []int{1, 8}},
		{"several, each the only one for somebody", keysTwo(205, 306, 407), willLinks(2, 3, 3, 3, 4, 3), []int{2, 3, 4}},
		{"an only one that reaches all, ahead of a greater Will", keysTwo(205, 206, 306), willLinks(2, 3, 3, 6), []int{2}},
		{"two only ones, which leave nothing to the third", keysTwo(205, 306, 307, 406, 407, 408), willLinks(2, 3, 3, 3, 4, 3), []int{2, 4}},
		{"always willing, reaching none", nil, willLinks(2, 7, 3, 3, 4, 7), []int{2, 4}},
		{"always willing, reaching none, beside one that reaches", keysTwo(205), willLinks(2, 3, 3, 7), []int{2, 3}},
		{"always willing, reaching all", keysTwo(205, 206, 305, 306), willLinks(2, 3, 3, 7), []int{3}},
		{"always willing, reaching some", keysTwo(205, 206, 306, 405), willLinks(2, 3, 3, 7, 4, 3), []int{2, 3}},
		{"all always willing", keysTwo(205, 305), willLinks(2, 7, 3, 7, 4, 7), []int{2, 3, 4}},
		{"nearly always willing, reaching none", keysTwo(205), willLinks(2, 3, 3, 6), []int{2}},
	} {
		if got, code := impl.FloodMprs(c.two, c.links, 1, 10); !slices.Equal(got, c.want) || code != impl.OK {
			t.Errorf("%s: %v, %d, not %v", c.what, got, code, c.want)
		}
		checkFloodAt(t, c.two, c.links, 1, 10)
	}
}

// Each rule with one that would be taken by all the later ones against it.
func TestPromise9TiesOfFloodRelaysByHand(t *testing.T) {
	for _, c := range []struct {
		what  string
		two   []impl.Tuple
		links []impl.Link
		want  []int
	}{
		{"most, against the greater Will and the lower address", keysTwo(206, 307, 406, 407), willLinks(2, 6, 3, 6, 4, 1), []int{4}},
		{"most of those that are left, against the greater Degree", keysTwo(206, 208, 306, 307, 408, 507), willLinks(2, 3, 3, 3, 4, 7, 5, 3), []int{3, 4}},
		{"most of those that are left, against the greater Will", keysTwo(206, 208, 306, 307, 408, 507), willLinks(2, 6, 3, 1, 4, 7, 5, 3), []int{3, 4}},
		{"the greater Will, against the greater Degree and the lower address", keysTwo(205, 206, 207, 305, 406, 407), willLinks(2, 3, 3, 4, 4, 7), []int{3, 4}},
		{"the greater Will, against the lower address", keysTwo(205, 305, 405), willLinks(2, 3, 3, 5, 4, 4), []int{3}},
		{"the greater Degree, against the lower address", keysTwo(205, 305, 306, 406), willLinks(2, 3, 3, 3, 4, 7), []int{3, 4}},
		{"the greater Degree of three", keysTwo(206, 306, 307, 407, 408, 506, 507, 508), willLinks(2, 3, 3, 3, 4, 7, 5, 3), []int{4, 5}},
		{"the lower address", keysTwo(205, 305, 405), willLinks(2, 3, 3, 3, 4, 3), []int{2}},
		{"the lower address of many", keysTwo(405, 605, 705, 805), willLinks(4, 2, 6, 2, 7, 2, 8, 2), []int{4}},
		{"Degree has no neighbors and not us", keysTwo(205, 301, 302, 304, 305), willLinks(2, 3, 3, 3, 4, 3), []int{2}},
		{"the second choice is by what is left then", keysTwo(205, 206, 207, 305, 306, 308, 407, 408), willLinks(2, 3, 3, 3, 4, 3), []int{2, 3}},
		{"the second choice is by Will", keysTwo(205, 206, 207, 305, 306, 308, 407, 408), willLinks(2, 3, 3, 3, 4, 4), []int{2, 4}},
	} {
		if got, code := impl.FloodMprs(c.two, c.links, 1, 10); !slices.Equal(got, c.want) || code != impl.OK {
			t.Errorf("%s: %v, %d, not %v", c.what, got, code, c.want)
		}
		checkFloodAt(t, c.two, c.links, 1, 10)
	}
}

func TestPromise9DegreeCoversAndNeedlessByHand(t *testing.T) {
	two, links := keysTwo(201, 203, 205, 206, 306, 307, 406, 507, 807), willLinks(2, 3, 3, 3, 4, 3, 8, 0)
	for addr, want := range []int{0, 0, 2, 2, 1, 0, 0, 0, 0, 0} {
		if n, code := impl.Degree(two, links, 1, 10, addr); n != want || code != impl.OK {
			t.Errorf("Degree of %d: %d, %d, not %d", addr, n, code, want)
		}
	}
	for _, c := range []struct {
		mprs   []int
		covers bool
		want   []int
	}{
		{nil, false, nil},
		{[]int{2}, false, nil},
		{[]int{2, 4}, false, nil},
		{[]int{2, 3}, true, nil},
		{[]int{3, 2}, true, nil},
		{[]int{2, 3, 4}, true, []int{4}},
		{[]int{4, 3, 2}, true, []int{4}},
		{[]int{2, 3, 2}, true, []int{2, 2}},
		{[]int{3, 2, 4, 3}, true, []int{3, 4, 3}},
		{[]int{2, 2}, false, nil},
		{[]int{2, 5, 8}, false, nil},
		{[]int{7, 3, 5, 2, 1}, true, []int{7, 5, 1}},
		{[]int{9, 3, 0, 2, -1}, true, []int{9, 0, -1}},
		{[]int{0, 9, 4}, false, nil},
		{[]int{1, 2, 3, 4, 5, 6, 7, 8}, true, []int{1, 4, 5, 6, 7, 8}},
		{[]int{8, 8, 4, 2, 2, 3, 3, 8}, true, []int{8, 8, 4, 2, 2, 3, 3, 8}},
	} {
		if ok, code := impl.Covers(two, links, 1, 10, c.mprs); ok != c.covers || code != impl.OK {
			t.Errorf("Covers by %v: %v, %d", c.mprs, ok, code)
		}
		if got, code := impl.Needless(two, links, 1, 10, c.mprs); !slices.Equal(got, c.want) || code != impl.OK {
			t.Errorf("Needless of %v: %v, %d, not %v", c.mprs, got, code, c.want)
		}
	}
}

// Where nobody is to be reached all cover, and all are needless.
func TestPromise9NobodyToReach(t *testing.T) {
	for _, c := range []struct {
		two   []impl.Tuple
		links []impl.Link
	}{{nil, nil}, {nil, willLinks(2, 3, 3, 7)}, {keysTwo(205), nil}, {keysTwo(201, 203, 302), willLinks(2, 3, 3, 3)}, {keysTwo(205), willLinks(2, 0)}} {
		for _, mprs := range [][]int{nil, {2}, {3, 2}, {5, 5, 0, 9}, {1, 2, 3, 4, 5, 6, 7, 8}} {
			if ok, code := impl.Covers(c.two, c.links, 1, 10, mprs); !ok || code != impl.OK {
				t.Errorf("Covers(%v, %v, 1, 10, %v) = %v, %d", c.two, c.links, mprs, ok, code)
			}
			if got, code := impl.Needless(c.two, c.links, 1, 10, mprs); !slices.Equal(got, mprs) || code != impl.OK {
				t.Errorf("Needless(%v, %v, 1, 10, %v) = %v, %d", c.two, c.links, mprs, got, code)
			}
		}
	}
}

func TestPromise9FloodRelaysByStatusAndTime(t *testing.T) {
	for until := 9; until <= 12; until++ {
		two := []impl.Tuple{{Key: 205, Until: until, Value: 1}, {Key: 305, Until: 30, Value: 1}}
		for heard := 9; heard <= 12; heard++ {
			for sym := 9; sym <= 12; sym++ {
				for _, will := range []int{0, 1, 3, 6, 7} {
					links := []impl.Link{{Addr: 2, Heard: heard, Sym: sym, In: 1, Will: will}, symLink(3)}
					near := heard > 10 && sym > 10
					reaches := near && until > 10 && will > 0
					var want []int
					switch {
					case near && will == 7 && reaches:
						want = []int{2}
					case near && will == 7:
						want = []int{2, 3}
					case reaches && will >= 3:
						want = []int{2}
					default:
						want = []int{3}
					}
					if got, code := impl.FloodMprs(two, links, 1, 10); !slices.Equal(got, want) || code != impl.OK {
						t.Errorf("FloodMprs(%v, %v, 1, 10) = %v, %d, not %v", two, links, got, code, want)
					}
					if ok, code := impl.Covers(two, links, 1, 10, []int{2}); ok != reaches || code != impl.OK {
						t.Errorf("Covers(%v, %v, 1, 10, [2]) = %v, %d", two, links, ok, code)
					}
					checkFloodAt(t, two, links, 1, 10)
				}
			}
		}
	}
}

// All nets of us, three neighbors and three others, with Wills that tie and that do not.
func TestPromise9EachSmallNetOfRelays(t *testing.T) {
	wills := []int{0, 3, 4, 7}
	for net := range 1 << 9 {
		var two []impl.Tuple
		for i := range 9 {
			if net>>i&1 == 1 {
				two = append(two, impl.Tuple{Key: 100*(2+i/3) + 5 + i%3, Until: 30, Value: 1})
			}
		}
		for mix := range 1 << 6 {
			links := willLinks(2, wills[mix&3], 3, wills[mix>>2&3], 4, wills[mix>>4&3])
			checkFlood(t, two, links, 1, 10)
		}
	}
}

func TestPromise9EachListOfRelays(t *testing.T) {
	d := &draws{91}
	for range 30 {
		two, links, me := d.closeTwo(), d.closeLinks(), 1+d.next(8)
		for choice := range 1 << 8 {
			var mprs []int
			for i := range 8 {
				if choice>>i&1 == 1 {
					mprs = append(mprs, i+1)
				}
			}
			checkReached(t, two, links, me, 10, mprs)
		}
	}
}

func TestPromise9RightSetsHaveFloodRelays(t *testing.T) {
	links := [][]impl.Link{nil, plainLinks(), symLinksOf(1, 2, 3, 4, 5, 6, 7, 8), symLinksOf(1), symLinksOf(8), symLinksOf(2, 3, 7), willLinks(1, 7, 4, 7, 8, 7)}
	for _, two := range rightTwos() {
		for _, list := range links {
			for _, now := range []int{-1, 0, 11, 12, 19, 20, 30} {
				checkFloodAt(t, two, list, 1+len(two)%8, now)
			}
		}
	}
}

func TestPromise9EdgesOfLinksHaveFloodRelays(t *testing.T) {
	for i, x := range edgeLinks(1) {
		for _, y := range []impl.Link{edgeLinks(8)[i], edgeLinks(8)[31-i]} {
			for _, two := range [][]impl.Tuple{nil, edgeTwo(), fullTwo()} {
				for _, now := range []int{-1, 0, 1, maxTime - 1, maxTime, maxTime + 1} {
					checkFloodAt(t, two, []impl.Link{x, y}, 1+i%8, now)
				}
			}
		}
	}
}

func TestPromise9DrawnFloodRelays(t *testing.T) {
	d := &draws{92}
	for range 6000 {
		two, links, me, now := d.closeTwo(), d.closeLinks(), d.next(10), 9+d.next(3)
		checkFlood(t, two, links, me, now)
		checkDegree(t, two, links, me, now, d.next(10))
		checkReached(t, two, links, me, now, d.relayList())
	}
	for range 1000 {
		checkFloodAt(t, d.two(), d.links(), 1+d.next(8), d.next(42)-1)
	}
}
