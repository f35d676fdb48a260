package tests

import (
	"slices"
	"testing"

	"loop.example/g00419/impl"
)

const mostTwo = 56

func plainTwo() []impl.Tuple {
	return []impl.Tuple{
		{Key: 201, Until: 30, Value: 1},
		{Key: 204, Until: 12, Value: 4},
		{Key: 305, Until: 30, Value: 5},
		{Key: 306, Until: 11, Value: 6},
		{Key: 708, Until: 30, Value: 0},
	}
}

// fullTwo has all two-hop neighbors that there can be.
func fullTwo() []impl.Tuple {
	var list []impl.Tuple
	for via := 1; via <= 8; via++ {
		for addr := 1; addr <= 8; addr++ {
			if via != addr {
				list = append(list, impl.Tuple{Key: 100*via + addr, Until: 4*via + addr, Value: 10*via + addr})
			}
		}
	}
	return list
}

// edgeTwo has the least and the greatest keys, times and values.
func edgeTwo() []impl.Tuple {
	return []impl.Tuple{{Key: 102}, {Key: 108, Until: maxTime}, {Key: 801, Value: maxTime}, {Key: 807, Until: maxTime, Value: maxTime}}
}

func (d *draws) two() []impl.Tuple {
	of := 1 + d.next(4)
	return chosen(fullTwo(), func(x impl.Tuple) bool { return d.next(of) == 0 })
}

func rightTwos() [][]impl.Tuple {
	lists := [][]impl.Tuple{nil, {}, plainTwo(), edgeTwo(), fullTwo(), fullTwo()[1:], fullTwo()[:mostTwo-1]}
	for _, x := range fullTwo() {
		lists = append(lists, []impl.Tuple{x})
	}
	d := &draws{81}
	for range 60 {
		lists = append(lists, d.two())
	}
	return lists
}

// symLink is symmetric until 20, and willing.
func symLink(addr int) impl.Link {
	return impl.Link{Addr: addr, Heard: 20, Sym: 20, In: 5, Out: 7, Will: 3}
}

func symLinksOf(addrs ...int) []impl.Link {
	var list []impl.Link
	for _, addr := range addrs {
		list = append(list, symLink(addr))
	}
	return list
}

// twoAt answers the tuple by which via reaches addr, and whether there is one.
func twoAt(two []impl.Tuple, via, addr int) (impl.Tuple, bool) {
	for _, x := range two {
		if x.Key/100 == via && x.Key%100 == addr {
			return x, true
		}
	}
	return impl.Tuple{}, false
}

// hasSym says whether a hello has addr as symmetric, and with which metric.
func hasSym(h impl.Hello, addr int) (int, bool) {
	for _, x := range h.List {
		if x.Addr == addr && x.Status == 2 {
			return x.Metric, true
		}
	}
	return 0, false
}

// wantHearTwo goes through all pairs of addresses, and asks of each what chapter 8 says of it.
func wantHearTwo(two []impl.Tuple, me, from, now int, sym bool, h impl.Hello) []impl.Tuple {
	var want []impl.Tuple
	for via := 1; via <= 8; via++ {
		for addr := 1; addr <= 8; addr++ {
			if via != from {
				if x, there := twoAt(two, via, addr); there {
					want = append(want, x)
				}
				continue
			}
			if metric, there := hasSym(h, addr); there && sym && addr != me && addr != from {
				want = append(want, impl.Tuple{Key: 100*via + addr, Until: now + h.Valid, Value: metric})
			}
		}
	}
	return want
}

func wantTwoOf(two []impl.Tuple, via int) []int {
	var want []int
	for addr := 1; addr <= 8; addr++ {
		if _, there := twoAt(two, via, addr); there {
			want = append(want, addr)
		}
	}
	return want
}

func wantViaOf(two []impl.Tuple, links []impl.Link, addr, now int) []int {
	var want []int
	for _, x := range links {
		y, there := twoAt(two, x.Addr, addr)
		if there && y.Until > now && wantStatus(x, now) == 2 && x.Will > 0 {
			want = append(want, x.Addr)
		}
	}
	return want
}

func wantStrict(two []impl.Tuple, links []impl.Link, me, now int) []int {
	var want []int
	for addr := 1; addr <= 8; addr++ {
		near := slices.ContainsFunc(links, func(x impl.Link) bool { return x.Addr == addr && wantStatus(x, now) == 2 })
		if addr != me && !near && len(wantViaOf(two, links, addr, now)) > 0 {
			want = append(want, addr)
		}
	}
	return want
}

// checkHearTwo asks for all that is by from and by others, and that what is answered is right.
func checkHearTwo(t *testing.T, two []impl.Tuple, me, from, now int, sym bool, h impl.Hello) []impl.Tuple {
	t.Helper()
	want := wantHearTwo(two, me, from, now, sym, h)
	got, code := impl.HearTwo(two, me, from, now, sym, h)
	if !slices.Equal(got, want) || code != impl.OK {
		t.Fatalf("HearTwo(%v, %d, %d, %d, %v, %v) = %v, %d, not %v", two, me, from, now, sym, h, got, code, want)
	}
	syms, _ := impl.SymOf(h)
	syms = slices.DeleteFunc(syms, func(addr int) bool { return !sym || addr == me || addr == from })
	if addrs, code := impl.TwoOf(got, from); !slices.Equal(addrs, syms) || code != impl.OK {
		t.Fatalf("HearTwo(%v, %d, %d, %d, %v, %v): TwoOf %v, %d, not %v", two, me, from, now, sym, h, addrs, code, syms)
	}
	if !impl.SetOK(got) {
		t.Fatalf("HearTwo made a set that is not right: %v", got)
	}
	return got
}

func checkTwoOf(t *testing.T, two []impl.Tuple, via int) {
	t.Helper()
	if got, code := impl.TwoOf(two, via); !slices.Equal(got, wantTwoOf(two, via)) || code != impl.OK {
		t.Errorf("TwoOf(%v, %d) = %v, %d", two, via, got, code)
	}
}

func checkViaOf(t *testing.T, two []impl.Tuple, links []impl.Link, addr, now int) {
	t.Helper()
	if got, code := impl.ViaOf(two, links, addr, now); !slices.Equal(got, wantViaOf(two, links, addr, now)) || code != impl.OK {
		t.Errorf("ViaOf(%v, %v, %d, %d) = %v, %d", two, links, addr, now, got, code)
	}
}

func checkStrict(t *testing.T, two []impl.Tuple, links []impl.Link, me, now int) {
	t.Helper()
	if got, code := impl.StrictTwo(two, links, me, now); !slices.Equal(got, wantStrict(two, links, me, now)) || code != impl.OK {
		t.Errorf("StrictTwo(%v, %v, %d, %d) = %v, %d", two, links, me, now, got, code)
	}
}

// checkTwoAt asks of each address, also of those that are none, at one time.
func checkTwoAt(t *testing.T, two []impl.Tuple, links []impl.Link, now int) {
	t.Helper()
	for addr := -1; addr <= 10; addr++ {
		checkViaOf(t, two, links, addr, now)
		checkStrict(t, two, links, addr, now)
	}
}

func TestPromise8KeysOfTwoAddresses(t *testing.T) {
	for via := 1; via <= 8; via++ {
		for addr := 1; addr <= 8; addr++ {
			want, wantCode := 100*via+addr, impl.OK
			if via == addr {
				want, wantCode = 0, impl.ErrRange
			}
			if key, code := impl.TwoKey(via, addr); key != want || code != wantCode {
				t.Errorf("TwoKey(%d, %d) = %d, %d", via, addr, key, code)
			}
		}
	}
	if len(fullTwo()) != mostTwo || mostTwo > impl.MaxSet {
		t.Error("the most two-hop neighbors", len(fullTwo()))
	}
}

func TestPromise8HellosByHand(t *testing.T) {
	h := impl.Hello{Will: 3, Valid: 8, List: []impl.Neighbor{
		{Addr: 1, Status: impl.StSym, Metric: 2, Mpr: true},
		{Addr: 2, Status: impl.StLost, Metric: 3},
		{Addr: 3, Status: impl.StSym, Metric: 4},
		{Addr: 4, Status: impl.StHeard, Metric: 5},
		{Addr: 5, Status: impl.StSym, Metric: 258},
		{Addr: 8, Status: impl.StSym, Metric: 6, Mpr: true},
	}}
	both := []impl.Tuple{{Key: 305, Until: 18, Value: 258}, {Key: 308, Until: 18, Value: 6}}
	for _, c := range []struct {
		what string
		two  []impl.Tuple
		sym  bool
		h    impl.Hello
		want []impl.Tuple
	}{
		{"a first one", nil, true, h, both},
		{"a first one of no symmetric neighbor", nil, false, h, nil},
		{"a later one", []impl.Tuple{{Key: 302, Until: 99, Value: 9}, {Key: 305, Until: 99, Value: 1}}, true, h, both},
		{"a later one of no symmetric neighbor", []impl.Tuple{{Key: 305, Until: 99, Value: 1}, {Key: 306, Until: 99}}, false, h, nil},
		{"one that has nobody", both, true, impl.Hello{Valid: 6}, nil},
		{"one that has us and itself alone", both, true, helloOf(h.List[0], h.List[2]), nil},
		{"one of WillNever", nil, true, impl.Hello{Valid: 8, List: h.List}, both},
		{
			"one beside those by others",
			[]impl.Tuple{{Key: 201, Until: 9}, {Key: 203, Until: 7, Value: 1}, {Key: 301, Until: 99}, {Key: 307, Until: 99}, {Key: 403, Until: 1}, {Key: 803}},
			true, h,
			[]impl.Tuple{{Key: 201, Until: 9}, {Key: 203, Until: 7, Value: 1}, both[0], both[1], {Key: 403, Until: 1}, {Key: 803}},
		},
		{"one of no symmetric neighbor beside those by others", plainTwo(), false, h, []impl.Tuple{plainTwo()[0], plainTwo()[1], plainTwo()[4]}},
	} {
		if got, code := impl.HearTwo(c.two, 1, 3, 10, c.sym, c.h); !slices.Equal(got, c.want) || code != impl.OK {
			t.Errorf("%s: %v, %d, not %v", c.what, got, code, c.want)
		}
	}
}

func TestPromise8AskedByHand(t *testing.T) {
	two, links := plainTwo(), symLinksOf(2, 3, 6, 7)
	links[3].Will = impl.WillNever
	for _, c := range []struct {
		via  int
		want []int
	}{{2, []int{1, 4}}, {3, []int{5, 6}}, {7, []int{8}}, {1, nil}, {8, nil}} {
		if got, code := impl.TwoOf(two, c.via); !slices.Equal(got, c.want) || code != impl.OK {
			t.Errorf("TwoOf %d: %v, %d, not %v", c.via, got, code, c.want)
		}
	}
	for _, c := range []struct {
		addr, now int
		want      []int
	}{{4, 11, []int{2}}, {4, 12, nil}, {6, 10, []int{3}}, {6, 11, nil}, {5, 19, []int{3}}, {5, 20, nil}, {8, 10, nil}, {1, 10, []int{2}}} {
		if got, code := impl.ViaOf(two, links, c.addr, c.now); !slices.Equal(got, c.want) || code != impl.OK {
			t.Errorf("ViaOf %d at %d: %v, %d, not %v", c.addr, c.now, got, code, c.want)
		}
	}
	for _, c := range []struct {
		me, now int
		want    []int
	}{{1, 10, []int{4, 5}}, {1, 12, []int{5}}, {5, 10, []int{1, 4}}, {8, 10, []int{1, 4, 5}}, {1, 20, nil}} {
		if got, code := impl.StrictTwo(two, links, c.me, c.now); !slices.Equal(got, c.want) || code != impl.OK {
			t.Errorf("StrictTwo of %d at %d: %v, %d, not %v", c.me, c.now, got, code, c.want)
		}
	}
}

// Who is symmetric to us is no strict two-hop neighbor, willing or not; who is heard or lost may be one.
func TestPromise8StrictByStatus(t *testing.T) {
	two := []impl.Tuple{{Key: 204, Until: 99, Value: 1}}
	for _, c := range []struct {
		what string
		x    impl.Link
		want []int
	}{
		{"symmetric", impl.Link{Addr: 4, Heard: 20, Sym: 20, In: 1, Will: 7}, nil},
		{"symmetric, but not willing", impl.Link{Addr: 4, Heard: 20, Sym: 20, In: 1}, nil},
		{"just symmetric", impl.Link{Addr: 4, Heard: 11, Sym: 11, In: 1, Will: 3}, nil},
		{"heard", impl.Link{Addr: 4, Heard: 20, Sym: 10, In: 1, Will: 3}, []int{4}},
		{"lost", impl.Link{Addr: 4, Heard: 10, Sym: 20, In: 1, Will: 3}, []int{4}},
	} {
		got, code := impl.StrictTwo(two, []impl.Link{symLink(2), c.x}, 1, 10)
		if !slices.Equal(got, c.want) || code != impl.OK {
			t.Errorf("one that is %s: %v, %d, not %v", c.what, got, code, c.want)
		}
	}
}

func TestPromise8WaysByStatusWillAndTime(t *testing.T) {
	for until := 8; until <= 12; until++ {
		two := []impl.Tuple{{Key: 204, Until: until, Value: 1}}
		for heard := 9; heard <= 12; heard++ {
			for sym := 9; sym <= 12; sym++ {
				for will := range 8 {
					links := []impl.Link{{Addr: 2, Heard: heard, Sym: sym, In: 1, Will: will}}
					var want []int
					if until > 10 && heard > 10 && sym > 10 && will > 0 {
						want = []int{2}
					}
					if got, code := impl.ViaOf(two, links, 4, 10); !slices.Equal(got, want) || code != impl.OK {
						t.Errorf("ViaOf(%v, %v, 4, 10) = %v, %d", two, links, got, code)
					}
					checkTwoAt(t, two, links, 10)
				}
			}
		}
	}
}

func TestPromise8HellosOfEachNeighbor(t *testing.T) {
	for me := 1; me <= 8; me++ {
		for from := 1; from <= 8; from++ {
			for addr := 1; addr <= 8; addr++ {
				for _, x := range eachStatus(addr, 300) {
					for _, two := range [][]impl.Tuple{nil, plainTwo(), fullTwo()} {
						checkHearTwo(t, two, me, from, 10, true, helloOf(x))
						checkHearTwo(t, two, me, from, 10, false, helloOf(x))
					}
				}
			}
		}
	}
}

// Chapter 8 names no fault of a hello from ourselves: it is heard like any other, and has us as from alone.
func TestPromise8AHelloFromUs(t *testing.T) {
	for me := 1; me <= 8; me++ {
		h := helloOf(neighborsAt(1, 2, 3, 4, 5, 6, 7, 8)...)
		if got := checkHearTwo(t, nil, me, me, 10, true, h); len(got) != 7 {
			t.Errorf("a hello from us, %d: %v", me, got)
		}
	}
}

func TestPromise8EachChoiceOfNeighbors(t *testing.T) {
	for choice := range 1 << 8 {
		h := helloOf()
		for i := range 8 {
			if choice>>i&1 == 1 {
				h.List = append(h.List, eachStatus(i+1, 10*i+1)[2+i%2])
			} else if choice%3 == 0 {
				h.List = append(h.List, eachStatus(i+1, 10*i+1)[i%2])
			}
		}
		for from := 1; from <= 8; from++ {
			checkHearTwo(t, fullTwo(), 1+choice%8, from, 10, true, h)
			checkHearTwo(t, nil, 1+choice%8, from, 10, true, h)
		}
	}
}

func TestPromise8EdgesOfHearing(t *testing.T) {
	for i, h := range edgeHellos() {
		two := [][]impl.Tuple{nil, edgeTwo(), plainTwo(), fullTwo()}[i%4]
		for _, me := range []int{1, 8} {
			for _, now := range []int{0, 1, maxNow - 1, maxNow} {
				checkHearTwo(t, two, me, 9-me, now, true, h)
				checkHearTwo(t, two, me, 9-me, now, false, h)
				checkHearTwo(t, two, me, 4, now, true, h)
			}
		}
	}
}

// What comes is kept till the hello's time, and no longer.
func TestPromise8TwoHopNeighborsGoAtTheirTime(t *testing.T) {
	links := []impl.Link{{Addr: 2, Heard: maxTime, Sym: maxTime, In: 1, Will: 1}}
	for _, valid := range exactValids() {
		for _, now := range []int{0, 7, maxNow} {
			h := impl.Hello{Will: 3, Valid: valid, List: neighborsAt(1, 2, 5)}
			two := checkHearTwo(t, nil, 1, 2, now, true, h)
			for _, at := range []int{now, now + valid - 1} {
				if got, code := impl.StrictTwo(two, links, 1, at); !slices.Equal(got, []int{5}) || code != impl.OK {
					t.Errorf("heard at %d for %d ticks: at %d %v, %d", now, valid, at, got, code)
				}
			}
			if got, code := impl.StrictTwo(two, links, 1, now+valid); len(got) != 0 || code != impl.OK {
				t.Errorf("heard at %d for %d ticks: at its time %v, %d", now, valid, got, code)
			}
		}
	}
}

func TestPromise8RightSetsAreAsked(t *testing.T) {
	links := [][]impl.Link{nil, plainLinks(), symLinksOf(1, 2, 3, 4, 5, 6, 7, 8), symLinksOf(1), symLinksOf(8), symLinksOf(2, 3, 7)}
	for _, two := range rightTwos() {
		for via := -1; via <= 10; via++ {
			checkTwoOf(t, two, via)
		}
		for _, list := range links {
			for _, now := range []int{-1, 0, 8, 11, 12, 19, 20, 30} {
				checkTwoAt(t, two, list, now)
			}
		}
	}
}

func TestPromise8EdgesOfLinks(t *testing.T) {
	for _, x := range append(edgeLinks(1), edgeLinks(8)...) {
		for _, two := range [][]impl.Tuple{nil, edgeTwo(), fullTwo()} {
			for _, now := range []int{-1, 0, 1, maxTime - 1, maxTime, maxTime + 1} {
				checkTwoAt(t, two, []impl.Link{x}, now)
			}
		}
	}
}

func TestPromise8ManyHellosOneAfterTheOther(t *testing.T) {
	d := &draws{82}
	var two []impl.Tuple
	for now := range 3000 {
		me, from := 1+d.next(8), 1+d.next(8)
		two = checkHearTwo(t, two, me, from, now, d.next(5) > 0, d.hello())
		checkTwoOf(t, two, 1+d.next(8))
		links := d.links()
		for i := range links {
			links[i].Heard += now
			links[i].Sym += now
		}
		checkViaOf(t, two, links, 1+d.next(8), now+d.next(30))
		checkStrict(t, two, links, me, now+d.next(30))
	}
}

func TestPromise8DrawnSetsLinksAndHellos(t *testing.T) {
	d := &draws{83}
	for range 3000 {
		two, links := d.two(), d.links()
		checkHearTwo(t, two, 1+d.next(8), 1+d.next(8), d.next(maxNow+1), d.next(2) > 0, d.hello())
		checkTwoAt(t, two, links, d.next(42)-1)
	}
}
