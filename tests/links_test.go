package tests

import (
	"slices"
	"strconv"
	"testing"

	"loop.example/g00419/impl"
)

const (
	maxMetric = 16744448
	maxNow    = 1000000
	helloHold = 6
)

func plainLinks() []impl.Link {
	return []impl.Link{
		{Addr: 2, Heard: 20, Sym: 18, In: 5, Out: 7, Will: 3},
		{Addr: 4, Heard: 16, Sym: 0, In: 256, Out: 0, Will: 0},
		{Addr: 7, Heard: 9, Sym: 30, In: 1, Out: 258, Will: 7},
	}
}

func linkOf(addr int) impl.Link {
	return impl.Link{Addr: addr, Heard: 10, Sym: 10, In: 5, Out: 7, Will: 3}
}

func linksOf(addrs ...int) []impl.Link {
	var list []impl.Link
	for _, addr := range addrs {
		list = append(list, linkOf(addr))
	}
	return list
}

// edgeLinks has, for an address, every mix of the least and the greatest of all else.
func edgeLinks(addr int) []impl.Link {
	var list []impl.Link
	for mix := range 1 << 5 {
		x := impl.Link{Addr: addr, In: 1}
		for i, set := range []func(){
			func() { x.Heard = maxTime },
			func() { x.Sym = maxTime },
			func() { x.In = 256 },
			func() { x.Out = maxMetric },
			func() { x.Will = 7 },
		} {
			if mix>>i&1 == 1 {
				set()
			}
		}
		list = append(list, x)
	}
	return list
}

func (d *draws) link(addr int) impl.Link {
	return impl.Link{Addr: addr, Heard: d.next(40), Sym: d.next(40), In: 1 + d.next(256), Out: d.next(maxMetric + 1), Will: d.next(8)}
}

func (d *draws) links() []impl.Link {
	var list []impl.Link
	for addr := 1; addr <= 8; addr++ {
		if d.next(3) > 0 {
			list = append(list, d.link(addr))
		}
	}
	return list
}

// rightLinks has none, one and the most that there can be, each choice of addresses, and the edges of all fields.
func rightLinks() [][]impl.Link {
	lists := [][]impl.Link{nil, {}, plainLinks()}
	d := &draws{71}
	for choice := range 1 << 8 {
		var list []impl.Link
		for i := range 8 {
			if choice>>i&1 == 1 {
				list = append(list, d.link(i+1))
			}
		}
		lists = append(lists, list)
	}
	low, high := edgeLinks(1), edgeLinks(8)
	for i := range low {
		lists = append(lists, []impl.Link{low[i]}, []impl.Link{high[i]}, []impl.Link{low[i], high[len(high)-1-i]})
	}
	return lists
}

func wantStatus(x impl.Link, now int) int {
	if !(x.Heard > now) {
		return 0
	}
	if x.Sym > now {
		return 2
	}
	return 1
}

// wantHeard is what chapter 7 tells of the link of from: the one that was there, or a zero one, with what is new.
func wantHeard(list []impl.Link, me, from, cost, now int, h impl.Hello) impl.Link {
	var x impl.Link
	for _, y := range list {
		if y.Addr == from {
			x = y
		}
	}
	x.Addr = from
	x.Heard = now + h.Valid
	x.In = cost
	x.Will = h.Will
	for _, y := range h.List {
		if y.Addr == me && y.Status == 0 {
			x.Sym = 0
		} else if y.Addr == me {
			x.Sym = now + h.Valid
			x.Out = y.Metric
		}
	}
	return x
}

func linksBut(list []impl.Link, addr int) []impl.Link {
	return slices.DeleteFunc(slices.Clone(list), func(x impl.Link) bool { return x.Addr == addr })
}

func linkAt(list []impl.Link, addr int) impl.Link {
	for _, x := range list {
		if x.Addr == addr {
			return x
		}
	}
	return impl.Link{}
}

// checkHear asks for the link that is heard, for all other links as they were, and that what is answered is right.
func checkHear(t *testing.T, list []impl.Link, me, from, cost, now int, h impl.Hello) []impl.Link {
	t.Helper()
	got, code := impl.HearHello(list, me, from, cost, now, h)
	if code != impl.OK || !impl.LinksOK(got) {
		t.Fatalf("HearHello(%v, %d, %d, %d, %d, %v) = %v, %d", list, me, from, cost, now, h, got, code)
	}
	if x, want := linkAt(got, from), wantHeard(list, me, from, cost, now, h); x != want {
		t.Fatalf("HearHello(%v, %d, %d, %d, %d, %v) has %v, not %v", list, me, from, cost, now, h, x, want)
	}
	if !slices.Equal(linksBut(got, from), linksBut(list, from)) {
		t.Fatalf("HearHello(%v, %d, %d, %d, %d, %v) = %v: other links changed", list, me, from, cost, now, h, got)
	}
	return got
}

func checkLinkFind(t *testing.T, list []impl.Link, addr int) {
	t.Helper()
	want, wantCode := linkAt(list, addr), impl.OK
	if want == (impl.Link{}) {
		wantCode = impl.ErrNone
	}
	if x, code := impl.LinkFind(list, addr); x != want || code != wantCode {
		t.Errorf("LinkFind(%v, %d) = %v, %d, not %v, %d", list, addr, x, code, want, wantCode)
	}
}

// checkLinksAt holds all that is asked of right links at a time against the rules, link by link.
func checkLinksAt(t *testing.T, list []impl.Link, now int) {
	t.Helper()
	var left []impl.Link
	var syms []int
	var lines []string
	for _, x := range list {
		status := wantStatus(x, now)
		if got := impl.StatusOf(x, now); got != status {
			t.Errorf("StatusOf(%v, %d) = %d", x, now, got)
		}
		if x.Heard+helloHold > now {
			left = append(left, x)
		}
		if status == 2 {
			syms = append(syms, x.Addr)
		}
		word := []string{"lost", "heard", "sym"}[status]
		lines = append(lines, strconv.Itoa(x.Addr)+" "+word+" "+strconv.Itoa(x.In)+" "+strconv.Itoa(x.Out))
	}
	if got, code := impl.LinksExpire(list, now); !slices.Equal(got, left) || code != impl.OK {
		t.Errorf("LinksExpire(%v, %d) = %v, %d", list, now, got, code)
	}
	if got, code := impl.SymLinks(list, now); !slices.Equal(got, syms) || code != impl.OK {
		t.Errorf("SymLinks(%v, %d) = %v, %d", list, now, got, code)
	}
	if got, code := impl.LinksText(list, now); !slices.Equal(got, lines) || code != impl.OK {
		t.Errorf("LinksText(%v, %d) = %q, %d", list, now, got, code)
	}
}

func TestPromise7Constants(t *testing.T) {
	got := []int{impl.HelloEvery, impl.TcEvery, impl.HelloHold, impl.TcHold, impl.DupHold}
	if !slices.Equal(got, []int{2, 5, 6, 15, 30}) {
		t.Error("times of chapter 7", got)
	}
}

func TestPromise7LinksByHand(t *testing.T) {
	list := plainLinks()
	if got, code := impl.SymLinks(list, 8); !slices.Equal(got, []int{2, 7}) || code != impl.OK {
		t.Error("SymLinks", got, code)
	}
	if got, code := impl.LinksText(list, 8); !slices.Equal(got, []string{"2 sym 5 7", "4 heard 256 0", "7 sym 1 258"}) || code != impl.OK {
		t.Errorf("LinksText %q, %d", got, code)
	}
	if got, code := impl.LinksText(list, 18); !slices.Equal(got, []string{"2 heard 5 7", "4 lost 256 0", "7 lost 1 258"}) || code != impl.OK {
		t.Errorf("LinksText %q, %d", got, code)
	}
	if got, code := impl.LinksExpire(list, 15); !slices.Equal(got, list[:2]) || code != impl.OK {
		t.Error("LinksExpire", got, code)
	}
	if x, code := impl.LinkFind(list, 4); x != list[1] || code != impl.OK {
		t.Error("LinkFind", x, code)
	}
	if x, code := impl.LinkFind(list, 5); x != (impl.Link{}) || code != impl.ErrNone {
		t.Error("LinkFind", x, code)
	}
}

func TestPromise7HellosByHand(t *testing.T) {
	us := func(status, metric int) impl.Hello {
		return impl.Hello{Will: 6, Valid: 8, List: []impl.Neighbor{
			{Addr: 2, Status: 2, Metric: 90}, {Addr: 3, Status: status, Metric: metric}, {Addr: 5, Metric: 91},
		}}
	}
	old := impl.Link{Addr: 4, Heard: 106, Sym: 105, In: 9, Out: 11, Will: 1}
	for _, c := range []struct {
		what string
		list []impl.Link
		h    impl.Hello
		want impl.Link
	}{
		{"a first one, without us", nil, impl.Hello{Will: 6, Valid: 8}, impl.Link{Addr: 4, Heard: 108, In: 20, Will: 6}},
		{"a first one that has others alone", nil, helloOf(us(0, 7).List[0]), impl.Link{Addr: 4, Heard: 106, In: 20, Will: 3}},
		{"a first one that has us symmetric", nil, us(2, 7), impl.Link{Addr: 4, Heard: 108, Sym: 108, In: 20, Out: 7, Will: 6}},
		{"a first one that has lost us", nil, us(0, 7), impl.Link{Addr: 4, Heard: 108, In: 20, Will: 6}},
		{"a first one that has heard us", nil, us(1, 7), impl.Link{Addr: 4, Heard: 108, Sym: 108, In: 20, Out: 7, Will: 6}},
		{"a later one, without us", []impl.Link{old}, impl.Hello{Will: 6, Valid: 8}, impl.Link{Addr: 4, Heard: 108, Sym: 105, In: 20, Out: 11, Will: 6}},
		{"a later one that has lost us", []impl.Link{old}, us(0, 7), impl.Link{Addr: 4, Heard: 108, Sym: 0, In: 20, Out: 11, Will: 6}},
		{"a later one that has heard us", []impl.Link{old}, us(1, 7), impl.Link{Addr: 4, Heard: 108, Sym: 108, In: 20, Out: 7, Will: 6}},
		{"a later one that has us symmetric", []impl.Link{old}, us(2, 7), impl.Link{Addr: 4, Heard: 108, Sym: 108, In: 20, Out: 7, Will: 6}},
		{"one that is valid for less", []impl.Link{old}, impl.Hello{Valid: 1, List: us(2, 7).List}, impl.Link{Addr: 4, Heard: 101, Sym: 101, In: 20, Out: 7}},
	} {
		if got, code := impl.HearHello(c.list, 3, 4, 20, 100, c.h); !slices.Equal(got, []impl.Link{c.want}) || code != impl.OK {
			t.Errorf("%s: %v, %d, not %v", c.what, got, code, c.want)
		}
	}
}

func TestPromise7OtherLinksStay(t *testing.T) {
	h := plainHello()
	for from := 2; from <= 8; from++ {
		for _, list := range rightLinks() {
			checkHear(t, list, 1, from, 5, 10, h)
		}
	}
	got := checkHear(t, plainLinks(), 1, 5, 5, 10, h)
	if want := append(plainLinks()[:2], impl.Link{Addr: 5, Heard: 16, In: 5, Will: 3}, plainLinks()[2]); !slices.Equal(got, want) {
		t.Errorf("a new link in the middle: %v, not %v", got, want)
	}
}

// Our own address may be a link's, as far as chapter 7 says; it stays like all others.
func TestPromise7ALinkWithOurAddressStays(t *testing.T) {
	got := checkHear(t, linksOf(1, 2, 3), 2, 3, 9, 20, plainHello())
	if len(got) != 3 || got[1] != linkOf(2) {
		t.Error("HearHello", got)
	}
}

func TestPromise7HellosThatHaveUsWithEachStatus(t *testing.T) {
	for me := 1; me <= 8; me++ {
		for from := 1; from <= 8; from++ {
			for _, x := range eachStatus(me, 300) {
				for _, list := range [][]impl.Link{nil, linksOf(from), linksOf(me), linksOf(1, 2, 3, 4, 5, 6, 7, 8), edgeLinks(from)[:1], edgeLinks(from)[31:]} {
					if me != from {
						checkHear(t, list, me, from, 3, 12, helloOf(x))
						checkHear(t, list, me, from, 3, 12, helloOf(eachStatus(from, 300)[x.Status]))
					}
				}
			}
		}
	}
}

func TestPromise7EdgesOfHearing(t *testing.T) {
	for i, h := range edgeHellos() {
		for _, me := range []int{1, 8} {
			from := 9 - me
			list := [][]impl.Link{nil, linksOf(1, 8), edgeLinks(from)[i%32 : i%32+1], linksOf(1, 2, 3, 4, 5, 6, 7, 8)}[i%4]
			for _, cost := range []int{1, 2, 255, 256} {
				for _, now := range []int{0, 1, maxNow - 1, maxNow} {
					checkHear(t, list, me, from, cost, now, h)
				}
			}
		}
	}
}

// Who is heard is heard till the hello's time, and who hears us is symmetric till then.
func TestPromise7WhoIsHeardIsHeard(t *testing.T) {
	for _, valid := range exactValids() {
		for _, now := range []int{0, 7, maxNow} {
			for status, want := range []int{impl.StHeard, impl.StSym, impl.StSym} {
				h := impl.Hello{Will: 3, Valid: valid, List: []impl.Neighbor{{Addr: 1, Status: status, Metric: 5}}}
				x := checkHear(t, []impl.Link{{Addr: 2, Heard: maxTime, Sym: maxTime, In: 1}}, 1, 2, 5, now, h)[0]
				for _, at := range []int{now, now + valid - 1} {
					if got := impl.StatusOf(x, at); got != want {
						t.Errorf("heard at %d for %d ticks with status %d: at %d it is %d", now, valid, status, at, got)
					}
				}
				if got := impl.StatusOf(x, now+valid); got != impl.StLost {
					t.Errorf("heard at %d for %d ticks with status %d: at its time it is %d", now, valid, status, got)
				}
			}
		}
	}
}

func TestPromise7StatusAtEachTime(t *testing.T) {
	for heard := range 5 {
		for sym := range 5 {
			for now := -2; now <= 6; now++ {
				x := impl.Link{Addr: 1, Heard: heard, Sym: sym, In: 1}
				if got := impl.StatusOf(x, now); got != wantStatus(x, now) {
					t.Errorf("StatusOf(%v, %d) = %d", x, now, got)
				}
			}
		}
	}
}

func TestPromise7RightLinksAreAsked(t *testing.T) {
	for _, list := range rightLinks() {
		if !impl.LinksOK(list) {
			t.Fatalf("LinksOK(%v)", list)
		}
		for addr := -1; addr <= 10; addr++ {
			checkLinkFind(t, list, addr)
		}
		for now := -2; now <= 48; now++ {
			checkLinksAt(t, list, now)
		}
	}
}

func TestPromise7LinksGoOneHoldBehindTheirTime(t *testing.T) {
	for _, heard := range []int{0, 1, 18, maxTime - 1, maxTime} {
		list := []impl.Link{{Addr: 3, Heard: heard, Sym: maxTime, In: 1}}
		for now := heard - 8; now <= heard+8; now++ {
			checkLinksAt(t, list, now)
		}
		if got, code := impl.LinksExpire(list, heard+5); !slices.Equal(got, list) || code != impl.OK {
			t.Errorf("just ahead of a hold behind %d: %v, %d", heard, got, code)
		}
		if got, code := impl.LinksExpire(list, heard+6); len(got) != 0 || code != impl.OK {
			t.Errorf("a hold behind %d: %v, %d", heard, got, code)
		}
	}
}

func TestPromise7ManyHellosOneAfterTheOther(t *testing.T) {
	d := &draws{72}
	var list []impl.Link
	for now := range 4000 {
		me, from := 1+d.next(3), 4+d.next(5)
		list = checkHear(t, list, me, from, 1+d.next(256), now, d.hello())
		checkLinksAt(t, list, now+d.next(40))
		checkLinkFind(t, list, 1+d.next(8))
		list, _ = impl.LinksExpire(list, now+d.next(9000))
	}
}

func TestPromise7DrawnLinksAndHellos(t *testing.T) {
	d := &draws{73}
	for range 5000 {
		list, me := d.links(), 1+d.next(8)
		from := 1 + (me+d.next(7))%8
		checkHear(t, list, me, from, 1+d.next(256), d.next(maxNow+1), d.hello())
	}
}
