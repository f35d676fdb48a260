package tests

import (
	"math"
	"slices"
	"testing"

	"loop.example/g00419/impl"
)

// notSeqs are integers that are no Seq.
func notSeqs() []int {
	return slices.DeleteFunc(slices.Clone(wildLinkInts), func(n int) bool { return 0 <= n && n <= 65535 })
}

// notNows are integers outside the bounds of now.
func notNows() []int {
	return slices.DeleteFunc(slices.Clone(wildLinkInts), func(n int) bool { return 0 <= n && n <= maxNow })
}

func helloMessages() []impl.Message {
	list := []impl.Message{{Type: impl.MeHello, Origin: 1}, {Type: impl.MeHello, Origin: 8, Seq: 65535, HopLimit: 255, Hops: 254}}
	for _, m := range edgeMessages() {
		if m.Type == impl.MeHello {
			list = append(list, m)
		}
	}
	return list
}

// checkMarkCode asks for this code of DupMark, and that all else is zero, or as it was with ErrFull.
func checkMarkCode(t *testing.T, dups []impl.Tuple, origin, seq, now, want int) {
	t.Helper()
	var wantList []impl.Tuple
	if want == impl.ErrFull {
		wantList = dups
	}
	mustNotPanic(t, "DupMark", func() {
		for _, sent := range []bool{false, true} {
			if got, code := impl.DupMark(dups, origin, seq, now, sent); !slices.Equal(got, wantList) || code != want {
				t.Errorf("DupMark(%s, %d, %d, %d, %v) = %s, %d, not code %d", brief(dups), origin, seq, now, sent, brief(got), code, want)
			}
		}
	})
}

func checkSeenCode(t *testing.T, dups []impl.Tuple, origin, seq, now, want int) {
	t.Helper()
	mustNotPanic(t, "DupSeen", func() {
		if seen, sent, code := impl.DupSeen(dups, origin, seq, now); seen || sent || code != want {
			t.Errorf("DupSeen(%s, %d, %d, %d) = %v, %v, %d, not code %d", brief(dups), origin, seq, now, seen, sent, code, want)
		}
	})
}

func checkMayCode(t *testing.T, m impl.Message, selectors []impl.Tuple, from, now, want int) {
	t.Helper()
	mustNotPanic(t, "MayForward", func() {
		if got, code := impl.MayForward(m, selectors, from, now); got || code != want {
			t.Errorf("MayForward(%s, %s, %d, %d) = %v, %d, not code %d", sayMessage(m), brief(selectors), from, now, got, code, want)
		}
	})
}

// checkWrongSet asks for this code of each call on a set, whatever else is wrong.
func checkWrongSet(t *testing.T, list []impl.Tuple, want int) {
	t.Helper()
	for _, n := range []int{0, 1, 3, 9, -1, 65536, math.MinInt, math.MaxInt} {
		checkMarkCode(t, list, 3, 5, n, want)
		checkMarkCode(t, list, n, 5, 10, want)
		checkMarkCode(t, list, 3, n, 10, want)
		checkMarkCode(t, list, n, n, n, want)
		checkSeenCode(t, list, 3, 5, n, want)
		checkSeenCode(t, list, n, 5, 10, want)
		checkSeenCode(t, list, n, n, n, want)
		for _, m := range []impl.Message{plainMessage(), tcMessage(1, 255), helloMessages()[0], {}, {Type: n, Origin: n}} {
			checkMayCode(t, m, list, 3, n, want)
			checkMayCode(t, m, list, n, 10, want)
		}
	}
}

func TestPromise11WrongSetsAreBad(t *testing.T) {
	for _, list := range wrongSets() {
		checkWrongSet(t, list, impl.ErrBad)
	}
}

func TestPromise11LongListsAreLongAheadOfBad(t *testing.T) {
	for _, list := range longSets() {
		checkWrongSet(t, list, impl.ErrLong)
	}
	for _, n := range []int{maxSet + 1, impl.MaxList - 1, impl.MaxList} {
		checkWrongSet(t, longList(n), impl.ErrBad)
	}
}

func TestPromise11OriginsAndNumbersOutOfTheirBounds(t *testing.T) {
	check := func(origin, seq int) {
		t.Helper()
		mustNotPanic(t, "DupKey", func() {
			if got, code := impl.DupKey(origin, seq); got != 0 || code != impl.ErrRange {
				t.Errorf("DupKey(%d, %d) = %d, %d", origin, seq, got, code)
			}
		})
		// Among these are the keys that such an origin or number would fall upon, and a set that has no room.
		for _, dups := range [][]impl.Tuple{nil, plainMarks(), edgeMarks(), strayMarks(), fullMarks()} {
			for _, now := range []int{10, 0, maxNow, -1, maxNow + 1, math.MinInt, math.MaxInt} {
				checkSeenCode(t, dups, origin, seq, now, impl.ErrRange)
				checkMarkCode(t, dups, origin, seq, now, impl.ErrRange)
			}
		}
	}
	for _, n := range notAddresses() {
		for _, seq := range []int{0, 5, 65535, -1, 65536, math.MinInt, math.MaxInt} {
			check(n, seq)
		}
	}
	for _, n := range notSeqs() {
		for _, origin := range []int{1, 3, 8, 0, 9, -1, math.MinInt, math.MaxInt} {
			check(origin, n)
		}
	}
	for origin := 1; origin <= 8; origin++ {
		check(origin, -1)
		check(origin, 65536)
	}
}

// ErrRange is named ahead of ErrFull: nothing is answered as it was then.
func TestPromise11TimesOutsideTheirBoundsAheadOfFull(t *testing.T) {
	for _, now := range notNows() {
		for _, dups := range [][]impl.Tuple{nil, plainMarks(), edgeMarks(), fullMarks(), longList(maxSet)} {
			checkMarkCode(t, dups, 3, 5, now, impl.ErrRange)
			checkMarkCode(t, dups, 1, 0, now, impl.ErrRange)
		}
	}
	for _, now := range wildLinkInts {
		if 0 <= now && now <= maxNow {
			checkMark(t, plainMarks(), 3, 5, now, true)
			checkMarkCode(t, fullMarks(), 3, 5, now, impl.ErrFull)
		}
	}
}

// DupSeen and MayForward name no fault of now: at a time below 0 nothing is over.
func TestPromise11AnyIntegerAsNow(t *testing.T) {
	for _, now := range wildLinkInts {
		mustNotPanic(t, "a call with any now", func() {
			for _, list := range markSets() {
				checkSeen(t, list, 1, 0, now)
				checkSeen(t, list, 3, 5, now)
				checkSeen(t, list, 8, 65535, now)
				checkMay(t, plainMessage(), list, 3, now)
			}
			for _, from := range []int{0, 1, maxKey} {
				checkMay(t, plainMessage(), edgeSet(), from, now)
			}
		})
	}
	for _, now := range []int{-1, math.MinInt} {
		if seen, sent, code := impl.DupSeen([]impl.Tuple{{Key: 65536}}, 1, 0, now); !seen || sent || code != impl.OK {
			t.Errorf("a mark until 0, at %d: %v, %v, %d", now, seen, sent, code)
		}
		if seen, sent, code := impl.DupSeen([]impl.Tuple{{Key: 65536, Value: 1}}, 1, 1, now); seen || sent || code != impl.OK {
			t.Errorf("a mark that is not there, at %d: %v, %v, %d", now, seen, sent, code)
		}
		if got, code := impl.MayForward(plainMessage(), []impl.Tuple{{Key: 3}}, 3, now); !got || code != impl.OK {
			t.Errorf("a selector until 0, at %d: %v, %d", now, got, code)
		}
		if got, code := impl.MayForward(plainMessage(), []impl.Tuple{{Key: 3}}, 4, now); got || code != impl.OK {
			t.Errorf("a selector that is not there, at %d: %v, %d", now, got, code)
		}
	}
}

// MayForward names no fault of from: an integer that is no key has not chosen us.
func TestPromise11AnyIntegerAsFrom(t *testing.T) {
	for _, from := range wildLinkInts {
		mustNotPanic(t, "MayForward with any from", func() {
			for _, selectors := range [][]impl.Tuple{nil, plainSelectors(), edgeSet(), fullSet(), strayMarks()} {
				for _, now := range []int{math.MinInt, -1, 0, 9, maxTime} {
					checkMay(t, plainMessage(), selectors, from, now)
				}
			}
		})
	}
}

func TestPromise11WrongMessagesAreBad(t *testing.T) {
	for _, m := range wrongMessages() {
		for _, n := range []int{3, 0, 9, math.MinInt, math.MaxInt} {
			for _, selectors := range [][]impl.Tuple{nil, plainSelectors(), fullSet()} {
				checkMayCode(t, m, selectors, 3, n, impl.ErrBad)
				checkMayCode(t, m, selectors, n, 9, impl.ErrBad)
			}
		}
		for _, list := range longSets() {
			checkMayCode(t, m, list, 3, 9, impl.ErrLong)
		}
		mustNotPanic(t, "Forwarded", func() {
			if got, code := impl.Forwarded(m); got != (impl.Message{}) || code != impl.ErrBad {
				t.Errorf("Forwarded(%s) = %s, %d", sayMessage(m), sayMessage(got), code)
			}
		})
	}
}

// ErrBad is named ahead of ErrType and ErrEnd.
func TestPromise11WrongMessagesWithoutHopsAreBad(t *testing.T) {
	for _, m := range wrongMessages() {
		for _, kind := range []int{impl.MeHello, impl.MeTc} {
			for _, counts := range [][2]int{{0, 0}, {1, 4}, {9, 255}, {1, 255}, {-1, 255}, {256, 0}, {9, 256}, {9, -1}, {math.MinInt, math.MaxInt}, {math.MaxInt, math.MinInt}} {
				x := m
				x.Type, x.HopLimit, x.Hops = kind, counts[0], counts[1]
				if impl.MessageOK(x) {
					continue
				}
				checkMayCode(t, x, plainSelectors(), 3, 9, impl.ErrBad)
				checkMayCode(t, x, plainSelectors(), 5, 11, impl.ErrBad)
				if got, code := impl.Forwarded(x); got != (impl.Message{}) || code != impl.ErrBad {
					t.Errorf("Forwarded(%s) = %s, %d", sayMessage(x), sayMessage(got), code)
				}
			}
		}
	}
}

// A right message that is no advertisement is of another type, whoever sent it, and whether it has hops left or not.
func TestPromise11HellosAreOfAnotherType(t *testing.T) {
	for _, m := range helloMessages() {
		for _, selectors := range [][]impl.Tuple{nil, plainSelectors(), edgeSet(), fullSet()} {
			for _, n := range []int{3, 4, 0, 9, -1, math.MinInt, math.MaxInt} {
				checkMayCode(t, m, selectors, 3, n, impl.ErrType)
				checkMayCode(t, m, selectors, n, 9, impl.ErrType)
			}
		}
	}
}
