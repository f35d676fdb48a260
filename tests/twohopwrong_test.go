package tests

import (
	"fmt"
	"math"
	"slices"
	"testing"

	"loop.example/g00419/impl"
)

// notAddresses are integers that are no address.
func notAddresses() []int {
	return slices.DeleteFunc(slices.Clone(wildLinkInts), func(n int) bool { return 1 <= n && n <= 8 })
}

// otherKeys are keys of a right set that are of no two addresses, or of two alike.
func otherKeys() []int {
	list := []int{0, 1, 2, 8, 9, 99, 100, 109, 110, 112, 199, 200, 209, 250, 800, 808, 809, 810, 899, 900, 901, 908, 1001, 1002, 1102, 2003, 10203, 80807, maxKey - 1, maxKey}
	for addr := 1; addr <= 8; addr++ {
		list = append(list, addr, 100*addr, 101*addr, 100*addr+9, 900+addr, 1000*addr+2, 100*addr+10)
	}
	return list
}

// wrongTwos has sets with a fault of a key, of their order or of a tuple.
func wrongTwos() [][]impl.Tuple {
	lists := [][]impl.Tuple{{{Key: 304}, {Key: 304}}, {{Key: 305}, {Key: 304}}, {{Key: 102}, {Key: 305}, {Key: 304}}, {{Key: 305}, {Key: 304}, {Key: 807}}}
	lists = append(lists, append(fullTwo(), fullTwo()...), slices.Repeat([]impl.Tuple{{Key: 304}}, maxSet+1), longList(impl.MaxList))
	for _, key := range otherKeys() {
		x := impl.Tuple{Key: key, Until: 20, Value: 1}
		lists = append(lists, []impl.Tuple{x})
		var many []impl.Tuple
		for _, y := range fullTwo() {
			if y.Key < key {
				many = append(many, y)
			}
		}
		lists = append(lists, append(slices.Clone(many), x))
		lists = append(lists, append(append(many, x), fullTwo()[len(many):]...))
	}
	for _, n := range wildKeys {
		for _, x := range []impl.Tuple{{Key: n, Until: 9, Value: 9}, {Key: 304, Until: n, Value: 9}, {Key: 304, Until: 9, Value: n}} {
			if !(0 <= x.Key && x.Key <= maxKey && 0 <= x.Until && x.Until <= maxTime && 0 <= x.Value && x.Value <= maxTime) {
				lists = append(lists, []impl.Tuple{x}, []impl.Tuple{{Key: 102}, x}, []impl.Tuple{x, {Key: 807}}, []impl.Tuple{{Key: 102}, x, {Key: 807}})
			}
		}
	}
	return lists
}

func longTwos() [][]impl.Tuple {
	return [][]impl.Tuple{longList(impl.MaxList + 1), make([]impl.Tuple, impl.MaxList+1), slices.Repeat(fullTwo(), 74), longList(70000)}
}

// brief tells the beginning of a list that may be long.
func brief[T any](list []T) string {
	return fmt.Sprintf("%d: %v", len(list), list[:min(4, len(list))])
}

func checkHearTwoCode(t *testing.T, two []impl.Tuple, me, from, now int, h impl.Hello, want int) {
	t.Helper()
	mustNotPanic(t, "HearTwo", func() {
		for _, sym := range []bool{false, true} {
			if got, code := impl.HearTwo(two, me, from, now, sym, h); len(got) != 0 || code != want {
				t.Errorf("HearTwo(%s, %d, %d, %d, %v, hello of %s) = %s, %d, not code %d", brief(two), me, from, now, sym, brief(h.List), brief(got), code, want)
			}
		}
	})
}

// checkWithLinks asks that both calls that take links answer this code, whatever else they are given, and else zero.
func checkWithLinks(t *testing.T, two []impl.Tuple, links []impl.Link, want int) {
	t.Helper()
	mustNotPanic(t, "ViaOf or StrictTwo", func() {
		for _, n := range []int{0, 1, 4, 9, -1, math.MinInt, math.MaxInt} {
			for _, now := range []int{10, n} {
				if got, code := impl.ViaOf(two, links, n, now); len(got) != 0 || code != want {
					t.Errorf("ViaOf(%s, %s, %d, %d) = %v, %d, not code %d", brief(two), brief(links), n, now, got, code, want)
				}
				if got, code := impl.StrictTwo(two, links, n, now); len(got) != 0 || code != want {
					t.Errorf("StrictTwo(%s, %s, %d, %d) = %v, %d, not code %d", brief(two), brief(links), n, now, got, code, want)
				}
			}
		}
	})
}

// checkTwoCalls asks that each call on two-hop neighbors answers this code, whatever else is wrong, and else zero.
func checkTwoCalls(t *testing.T, two []impl.Tuple, want int) {
	t.Helper()
	mustNotPanic(t, "TwoOf", func() {
		for _, n := range []int{0, 1, 3, 8, 9, -1, math.MinInt, math.MaxInt} {
			if got, code := impl.TwoOf(two, n); len(got) != 0 || code != want {
				t.Errorf("TwoOf(%s, %d) = %v, %d, not code %d", brief(two), n, got, code, want)
			}
			checkHearTwoCode(t, two, n, 2, 10, plainHello(), want)
			checkHearTwoCode(t, two, 1, n, n, plainHello(), want)
		}
	})
	checkHearTwoCode(t, two, 1, 2, 10, plainHello(), want)
	checkHearTwoCode(t, two, 1, 3, -1, plainHello(), want)
	checkHearTwoCode(t, two, 1, 2, 10, impl.Hello{}, want)
	checkHearTwoCode(t, two, 9, 9, -1, helloOf(slices.Repeat(plainHello().List, 2000)...), want)
	for _, links := range [][]impl.Link{nil, plainLinks(), symLinksOf(1, 2, 3, 4, 5, 6, 7, 8), linksOf(2, 1), risingLinks(impl.MaxList)} {
		checkWithLinks(t, two, links, want)
	}
}

func TestPromise8KeysOfOtherIntegers(t *testing.T) {
	for _, via := range wildLinkInts {
		for _, addr := range wildLinkInts {
			want, wantCode := 0, impl.ErrRange
			if 1 <= via && via <= 8 && 1 <= addr && addr <= 8 && via != addr {
				want, wantCode = 100*via+addr, impl.OK
			}
			if key, code := impl.TwoKey(via, addr); key != want || code != wantCode {
				t.Errorf("TwoKey(%d, %d) = %d, %d", via, addr, key, code)
			}
		}
	}
}

func TestPromise8EachKeyOfASet(t *testing.T) {
	for key := 0; key <= maxKey; key++ {
		via, addr := key/100, key%100
		wantCode := impl.ErrBad
		if 1 <= via && via <= 8 && 1 <= addr && addr <= 8 && via != addr {
			wantCode = impl.OK
		}
		if got, code := impl.TwoOf([]impl.Tuple{{Key: key, Until: 9}}, via); code != wantCode || (len(got) == 1) != (code == impl.OK) {
			t.Fatalf("TwoOf with key %d: %v, %d", key, got, code)
		}
	}
}

func TestPromise8WrongSetsAreBad(t *testing.T) {
	for _, two := range wrongTwos() {
		checkTwoCalls(t, two, impl.ErrBad)
	}
}

func TestPromise8LongSetsAreLongAheadOfBad(t *testing.T) {
	for _, two := range longTwos() {
		checkTwoCalls(t, two, impl.ErrLong)
		for _, links := range longLinks() {
			checkWithLinks(t, two, links, impl.ErrLong)
		}
	}
}

func TestPromise8WrongLinksAreBad(t *testing.T) {
	for _, links := range wrongLinks() {
		for _, two := range [][]impl.Tuple{nil, plainTwo(), {{Key: 303}}} {
			checkWithLinks(t, two, links, impl.ErrBad)
		}
	}
}

func TestPromise8LongLinksAreLongAheadOfBad(t *testing.T) {
	for _, links := range longLinks() {
		for _, two := range [][]impl.Tuple{nil, plainTwo(), fullTwo(), {{Key: 303}}, {{Key: -1}}, longList(impl.MaxList)} {
			checkWithLinks(t, two, links, impl.ErrLong)
		}
	}
}

func TestPromise8WrongHellosAreBad(t *testing.T) {
	for _, h := range wrongHellos() {
		for _, two := range [][]impl.Tuple{nil, plainTwo(), fullTwo()} {
			checkHearTwoCode(t, two, 1, 3, 10, h, impl.ErrBad)
			checkHearTwoCode(t, two, 3, 3, 10, h, impl.ErrBad)
			checkHearTwoCode(t, two, 1, 3, -1, h, impl.ErrBad)
			checkHearTwoCode(t, two, 0, 9, maxNow+1, h, impl.ErrBad)
		}
	}
}

func TestPromise8AddressesThatAreNoneAreBadAheadOfRange(t *testing.T) {
	for _, n := range notAddresses() {
		for _, now := range []int{10, 0, maxNow, -1, maxNow + 1, math.MinInt, math.MaxInt} {
			for _, two := range [][]impl.Tuple{nil, plainTwo()} {
				checkHearTwoCode(t, two, n, 3, now, plainHello(), impl.ErrBad)
				checkHearTwoCode(t, two, 3, n, now, plainHello(), impl.ErrBad)
				checkHearTwoCode(t, two, n, n, now, plainHello(), impl.ErrBad)
			}
		}
	}
}

func TestPromise8TimesOutsideTheirBounds(t *testing.T) {
	for _, now := range wildLinkInts {
		for _, two := range [][]impl.Tuple{nil, plainTwo(), fullTwo()} {
			for _, from := range []int{1, 3, 8} {
				if now < 0 || now > maxNow {
					checkHearTwoCode(t, two, 1, from, now, plainHello(), impl.ErrRange)
				} else {
					checkHearTwo(t, two, 1, from, now, true, plainHello())
					checkHearTwo(t, two, 1, from, now, false, plainHello())
				}
			}
		}
	}
}

// At a time below 0 nothing is over, but what is not there does not come.
func TestPromise8AnyIntegerAsNow(t *testing.T) {
	links := [][]impl.Link{nil, plainLinks(), symLinksOf(2, 3), symLinksOf(1, 2, 3, 4, 5, 6, 7, 8), {{Addr: 2, In: 1, Will: 1}}, edgeLinks(8)[31:]}
	for _, now := range wildLinkInts {
		for _, two := range [][]impl.Tuple{nil, {{Key: 204}}, plainTwo(), edgeTwo(), fullTwo()} {
			for _, list := range links {
				mustNotPanic(t, "a call with any now", func() { checkTwoAt(t, two, list, now) })
			}
		}
	}
	if got, code := impl.StrictTwo([]impl.Tuple{{Key: 204}}, []impl.Link{{Addr: 2, In: 1, Will: 1}}, 1, math.MinInt); !slices.Equal(got, []int{4}) || code != impl.OK {
		t.Errorf("StrictTwo at the least integer = %v, %d", got, code)
	}
}

// TwoOf, ViaOf and StrictTwo name no fault of an address: by or of one that is none there is nobody, and it takes nobody out.
func TestPromise8AnyIntegerAsAddress(t *testing.T) {
	links := symLinksOf(2, 3, 7)
	for _, n := range notAddresses() {
		mustNotPanic(t, "a call with any address", func() {
			for _, two := range [][]impl.Tuple{nil, plainTwo(), fullTwo()} {
				if got, code := impl.TwoOf(two, n); len(got) != 0 || code != impl.OK {
					t.Errorf("TwoOf(%v, %d) = %v, %d", two, n, got, code)
				}
				if got, code := impl.ViaOf(two, links, n, 10); len(got) != 0 || code != impl.OK {
					t.Errorf("ViaOf(%v, %v, %d, 10) = %v, %d", two, links, n, got, code)
				}
				checkStrict(t, two, links, n, 10)
			}
		})
		if got, code := impl.StrictTwo(plainTwo(), links, n, 10); !slices.Equal(got, []int{1, 4, 5, 6, 8}) || code != impl.OK {
			t.Errorf("StrictTwo of %d = %v, %d", n, got, code)
		}
	}
}
