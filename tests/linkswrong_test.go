package tests

import (
	"math"
	"slices"
	"testing"

	"loop.example/g00419/impl"
)

// wildLinkInts are integers around all bounds of a link's fields, a cost and a now.
var wildLinkInts = append([]int{maxMetric - 1, maxMetric, maxMetric + 1, math.MinInt + 5, math.MinInt + 6, math.MaxInt - 6, math.MaxInt - 5}, wildKeys...)

// wrongLinksOfOne has links with one fault each.
func wrongLinksOfOne() []impl.Link {
	var list []impl.Link
	for _, n := range wildLinkInts {
		for _, c := range []struct {
			low, high int
			set       func(x *impl.Link)
		}{
			{1, 8, func(x *impl.Link) { x.Addr = n }},
			{0, maxTime, func(x *impl.Link) { x.Heard = n }},
			{0, maxTime, func(x *impl.Link) { x.Sym = n }},
			{1, 256, func(x *impl.Link) { x.In = n }},
			{0, maxMetric, func(x *impl.Link) { x.Out = n }},
			{0, 7, func(x *impl.Link) { x.Will = n }},
		} {
			if n < c.low || n > c.high {
				x := linkOf(4)
				c.set(&x)
				list = append(list, x)
			}
		}
	}
	return list
}

// risingLinks has n links whose addresses rise, also beyond the greatest address.
func risingLinks(n int) []impl.Link {
	list := make([]impl.Link, n)
	for i := range list {
		list[i] = linkOf(i + 1)
	}
	return list
}

func wrongLinks() [][]impl.Link {
	lists := [][]impl.Link{{{}}, {{Addr: 1}}, {{In: 1}}}
	for _, addrs := range [][]int{{1, 1}, {8, 8}, {2, 1}, {8, 1}, {1, 3, 2}, {1, 3, 3}, {3, 3, 4}, {3, 2, 4}, {1, 2, 3, 4, 5, 6, 8, 7}, {0, 1}, {8, 9}} {
		lists = append(lists, linksOf(addrs...))
	}
	for _, n := range []int{9, 10, 255, 256, 257, impl.MaxList - 1, impl.MaxList} {
		lists = append(lists, risingLinks(n), slices.Repeat(linksOf(1), n))
	}
	for _, x := range wrongLinksOfOne() {
		ahead, behind := linkOf(1), linkOf(8)
		lists = append(lists, []impl.Link{x}, []impl.Link{ahead, x}, []impl.Link{x, behind}, []impl.Link{ahead, x, behind})
	}
	return lists
}

func longLinks() [][]impl.Link {
	return [][]impl.Link{risingLinks(impl.MaxList + 1), make([]impl.Link, impl.MaxList+1), slices.Repeat(linksOf(1), impl.MaxList+1), risingLinks(70000)}
}

func checkHearCode(t *testing.T, list []impl.Link, me, from, cost, now int, h impl.Hello, want int) {
	t.Helper()
	mustNotPanic(t, "HearHello", func() {
		var wantList []impl.Link
		if want == impl.ErrSelf {
			wantList = list
		}
		if got, code := impl.HearHello(list, me, from, cost, now, h); !slices.Equal(got, wantList) || code != want {
			t.Errorf("HearHello(%.200v, %d, %d, %d, %d, %.200v) = %.200v, %d, not code %d", list, me, from, cost, now, h, got, code, want)
		}
	})
}

// checkLinkCalls asks that each call on links answers this code, whatever else is wrong, and else zero.
func checkLinkCalls(t *testing.T, list []impl.Link, want int) {
	t.Helper()
	mustNotPanic(t, "a call on links that are not right", func() {
		if impl.LinksOK(list) {
			t.Errorf("LinksOK(%.200v)", list)
		}
		for _, n := range []int{0, 1, 4, 9, -1, math.MinInt, math.MaxInt} {
			if x, code := impl.LinkFind(list, n); x != (impl.Link{}) || code != want {
				t.Errorf("LinkFind(%.200v, %d) = %v, %d", list, n, x, code)
			}
			if got, code := impl.LinksExpire(list, n); len(got) != 0 || code != want {
				t.Errorf("LinksExpire(%.200v, %d) = %.200v, %d", list, n, got, code)
			}
			if got, code := impl.SymLinks(list, n); len(got) != 0 || code != want {
				t.Errorf("SymLinks(%.200v, %d) = %v, %d", list, n, got, code)
			}
			if got, code := impl.LinksText(list, n); len(got) != 0 || code != want {
				t.Errorf("LinksText(%.200v, %d) = %q, %d", list, n, got, code)
			}
			checkHearCode(t, list, 1, 2, n, n, plainHello(), want)
			checkHearCode(t, list, n, n, 5, 10, plainHello(), want)
		}
	})
	checkHearCode(t, list, 1, 2, 5, 10, plainHello(), want)
	checkHearCode(t, list, 1, 1, 5, 10, plainHello(), want)
	checkHearCode(t, list, 1, 2, 5, 10, impl.Hello{}, want)
	checkHearCode(t, list, 9, 9, 0, -1, helloOf(slices.Repeat(plainHello().List, 2000)...), want)
}

func TestPromise7WrongLinksAreBad(t *testing.T) {
	for _, list := range wrongLinks() {
		checkLinkCalls(t, list, impl.ErrBad)
	}
}

func TestPromise7LongListsOfLinksAreLongAheadOfBad(t *testing.T) {
	for _, list := range longLinks() {
		checkLinkCalls(t, list, impl.ErrLong)
	}
}

func TestPromise7EachBoundOfALink(t *testing.T) {
	for _, n := range wildLinkInts {
		for i, c := range []struct {
			x         impl.Link
			low, high int
		}{
			{impl.Link{Addr: n, In: 1}, 1, 8},
			{impl.Link{Addr: 1, Heard: n, In: 1}, 0, maxTime},
			{impl.Link{Addr: 1, Sym: n, In: 1}, 0, maxTime},
			{impl.Link{Addr: 1, In: n}, 1, 256},
			{impl.Link{Addr: 1, In: 1, Out: n}, 0, maxMetric},
			{impl.Link{Addr: 1, In: 1, Will: n}, 0, 7},
		} {
			if got, want := impl.LinksOK([]impl.Link{c.x}), c.low <= n && n <= c.high; got != want {
				t.Errorf("LinksOK with %d in field %d: %v", n, i, got)
			}
		}
	}
}

// An Out need not be exact, nor one that may be told: chapter 7 bounds it by MaxMetric alone.
func TestPromise7AnyOutUpToMaxMetric(t *testing.T) {
	for _, n := range []int{0, 1, 257, 259, 769, toldMost - 1, toldMost, toldMost + 1, maxMetric - 1, maxMetric} {
		if !impl.LinksOK([]impl.Link{{Addr: 1, In: 1, Out: n}}) {
			t.Errorf("LinksOK with Out %d", n)
		}
	}
}

func TestPromise7WrongHellosAreBad(t *testing.T) {
	for _, h := range wrongHellos() {
		for _, list := range [][]impl.Link{nil, plainLinks(), linksOf(1, 2, 3, 4, 5, 6, 7, 8)} {
			checkHearCode(t, list, 1, 2, 5, 10, h, impl.ErrBad)
			checkHearCode(t, list, 1, 1, 5, 10, h, impl.ErrBad)
			checkHearCode(t, list, 1, 2, 0, 10, h, impl.ErrBad)
			checkHearCode(t, list, 1, 1, 257, -1, h, impl.ErrBad)
		}
	}
}

func TestPromise7AddressesThatAreNoneAreBad(t *testing.T) {
	for _, n := range wildLinkInts {
		if 1 <= n && n <= 8 {
			continue
		}
		for _, cost := range []int{5, 0, 257, math.MinInt} {
			for _, now := range []int{10, -1, maxNow + 1, math.MaxInt} {
				checkHearCode(t, plainLinks(), n, 2, cost, now, plainHello(), impl.ErrBad)
				checkHearCode(t, plainLinks(), 2, n, cost, now, plainHello(), impl.ErrBad)
				checkHearCode(t, plainLinks(), n, n, cost, now, plainHello(), impl.ErrBad)
				checkHearCode(t, nil, n, 9, cost, now, plainHello(), impl.ErrBad)
			}
		}
	}
}

func TestPromise7FromUsIsSelfAheadOfRange(t *testing.T) {
	for _, list := range [][]impl.Link{nil, {}, plainLinks(), linksOf(1, 2, 3, 4, 5, 6, 7, 8), edgeLinks(8)[31:]} {
		for me := 1; me <= 8; me++ {
			for _, n := range wildLinkInts {
				checkHearCode(t, list, me, me, n, 10, plainHello(), impl.ErrSelf)
				checkHearCode(t, list, me, me, 5, n, plainHello(), impl.ErrSelf)
				checkHearCode(t, list, me, me, n, n, helloOf(eachStatus(me, 5)[2]), impl.ErrSelf)
			}
		}
	}
}

func TestPromise7CostsAndTimesOutsideTheirBounds(t *testing.T) {
	for _, n := range wildLinkInts {
		for _, list := range [][]impl.Link{nil, plainLinks()} {
			if n < 1 || n > 256 {
				checkHearCode(t, list, 1, 2, n, 10, plainHello(), impl.ErrRange)
				checkHearCode(t, list, 1, 2, n, -1, plainHello(), impl.ErrRange)
			} else {
				checkHear(t, list, 1, 2, n, 10, plainHello())
			}
			if n < 0 || n > maxNow {
				checkHearCode(t, list, 1, 2, 5, n, plainHello(), impl.ErrRange)
				checkHearCode(t, list, 1, 2, 257, n, plainHello(), impl.ErrRange)
			} else {
				checkHear(t, list, 1, 2, 5, n, plainHello())
			}
		}
	}
}

func TestPromise7AnyIntegerAsNow(t *testing.T) {
	for _, list := range rightLinks() {
		for _, now := range wildLinkInts {
			mustNotPanic(t, "a call with any now", func() { checkLinksAt(t, list, now) })
		}
	}
	for _, now := range []int{math.MinInt, math.MinInt + 1, -1} {
		if got, code := impl.LinksExpire(plainLinks(), now); !slices.Equal(got, plainLinks()) || code != impl.OK {
			t.Errorf("LinksExpire at %d = %v, %d", now, got, code)
		}
	}
}

func TestPromise7AnyIntegerAsAddr(t *testing.T) {
	for _, list := range [][]impl.Link{nil, plainLinks(), linksOf(1, 2, 3, 4, 5, 6, 7, 8)} {
		for _, addr := range wildLinkInts {
			mustNotPanic(t, "LinkFind", func() { checkLinkFind(t, list, addr) })
		}
	}
}

// StatusOf has no code: of any link it answers what its times say.
func TestPromise7StatusOfAnyLink(t *testing.T) {
	for _, heard := range wildLinkInts {
		for _, sym := range wildLinkInts {
			for _, now := range []int{math.MinInt, math.MinInt + 1, -1, 0, 1, maxTime, math.MaxInt - 1, math.MaxInt, heard, sym} {
				x := impl.Link{Addr: -1, Heard: heard, Sym: sym, In: -1, Out: -1, Will: -1}
				if got := impl.StatusOf(x, now); got != wantStatus(x, now) {
					t.Errorf("StatusOf(%v, %d) = %d", x, now, got)
				}
			}
		}
	}
}
