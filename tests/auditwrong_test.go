package tests

import (
	"math"
	"testing"

	"loop.example/g00419/impl"
)

func checkDistanceCode(t *testing.T, what string, n impl.Net, a, b, want int) {
	t.Helper()
	mustNotPanic(t, "TrueDistance of "+what, func() {
		if got, code := impl.TrueDistance(n, a, b); got != 0 || code != want {
			t.Errorf("TrueDistance of %s from %d to %d = %d, %d, not code %d", what, a, b, got, code, want)
		}
	})
}

func checkWalkCode(t *testing.T, what string, n impl.Net, a, b, want int) {
	t.Helper()
	mustNotPanic(t, "Walk of "+what, func() {
		if got, code := impl.Walk(n, a, b); len(got) != 0 || code != want {
			t.Errorf("Walk of %s from %d to %d = %v, %d, not code %d", what, a, b, got, code, want)
		}
	})
}

func checkCountCode(t *testing.T, what string, n impl.Net, origin, seq, want int) {
	t.Helper()
	mustNotPanic(t, "CountMarks of "+what, func() {
		if got, code := impl.CountMarks(n, origin, seq); got != 0 || code != want {
			t.Errorf("CountMarks of %s, %d, %d = %d, %d, not code %d", what, origin, seq, got, code, want)
		}
	})
}

// checkBadAudit asks that each call answers ErrBad, whatever numbers it is given.
func checkBadAudit(t *testing.T, what string, n impl.Net, a, b int) {
	t.Helper()
	checkDistanceCode(t, what, n, a, b, impl.ErrBad)
	checkWalkCode(t, what, n, a, b, impl.ErrBad)
	checkCountCode(t, what, n, a, b, impl.ErrBad)
	mustNotPanic(t, "audits of "+what, func() {
		if ok, code := impl.Converged(n); ok || code != impl.ErrBad {
			t.Errorf("Converged of %s = %v, %d", what, ok, code)
		}
		if ok, code := impl.AllCover(n); ok || code != impl.ErrBad {
			t.Errorf("AllCover of %s = %v, %d", what, ok, code)
		}
		if list, code := impl.ErrorsOf(n); len(list) != 0 || code != impl.ErrBad {
			t.Errorf("ErrorsOf of %s = %v, %d", what, list, code)
		}
	})
}

func TestPromise15WrongNetsAreBad(t *testing.T) {
	for _, c := range wrongNets() {
		checkBadAudit(t, c.name, c.n, 1, 2)
		checkBadAudit(t, c.name, c.n, 1, 1)
	}
	checkBadAudit(t, "a zero net", impl.Net{}, 1, 1)
}

// A net that is not right is bad ahead of routers, origins and numbers that are out of their bounds.
func TestPromise15BadAheadOfRange(t *testing.T) {
	for _, c := range someWrongNets() {
		for _, x := range wildNetInts {
			checkBadAudit(t, c.name, c.n, x, 1)
			checkBadAudit(t, c.name, c.n, 1, x)
			checkBadAudit(t, c.name, c.n, x, x)
		}
	}
}

// Each bound of each field of each router, one above and one below: an audit asks of a net what NetOK does.
func TestPromise15AuditsAskForAllThatIsRight(t *testing.T) {
	for _, c := range wrongFieldNets() {
		checkBadAudit(t, c.name, c.n, 1, 2)
	}
	for i := range 3 {
		n := knowingNet(meshNet(3))
		n.Routers[i].Dups = keysTwo(70000, 65536)
		checkBadAudit(t, "marks that don't rise", n, 1, 0)
		n = knowingNet(meshNet(3))
		n.Routers[i].Links[1].Addr = i + 1
		checkBadAudit(t, "a link to itself", n, 1, 2)
	}
}

func TestPromise15RoutersThatAreNone(t *testing.T) {
	for _, c := range rangeNets() {
		size := len(c.n.Routers)
		isRouter := func(x int) bool { return 1 <= x && x <= size }
		for _, a := range wildNetInts {
			for _, b := range append([]int{1, 2, 3, 6}, a, 0, -1, 7, 8, 9, math.MinInt, math.MaxInt) {
				if isRouter(a) && isRouter(b) {
					continue
				}
				checkDistanceCode(t, c.name, c.n, a, b, impl.ErrRange)
				checkDistanceCode(t, c.name, c.n, b, a, impl.ErrRange)
				checkWalkCode(t, c.name, c.n, a, b, impl.ErrRange)
				checkWalkCode(t, c.name, c.n, b, a, impl.ErrRange)
			}
		}
	}
}

// One that is none of the net's is out of its bounds, also where routers know ways to it.
func TestPromise15RoutersThatAreNoneButKnown(t *testing.T) {
	n := knowingNet(lineNet(3))
	for i := range n.Routers {
		meeting(&n.Routers[i], 4, 1)
		meeting(&n.Routers[i], 8, 1)
	}
	checkConverged(t, "4 and 8 are known", n, false)
	for a := 1; a <= 3; a++ {
		for _, b := range []int{4, 5, 8, 9} {
			checkWalkCode(t, "4 and 8 are known", n, a, b, impl.ErrRange)
			checkWalkCode(t, "4 and 8 are known", n, b, a, impl.ErrRange)
			checkDistanceCode(t, "4 and 8 are known", n, a, b, impl.ErrRange)
		}
	}
}

// An origin may be any address, not a router's of the net alone.
func TestPromise15MarksThatAreNone(t *testing.T) {
	strays := bareNet(3)
	for i := range strays.Routers {
		strays.Routers[i].Dups = strayMarks()
	}
	for _, c := range append(rangeNets(), namedNet{"stray marks", strays}) {
		for _, x := range wildNetInts {
			for _, y := range append([]int{0, 1, 5, 8, 65535, 65536}, x, -1, math.MinInt, math.MaxInt) {
				for _, m := range [][2]int{{x, y}, {y, x}} {
					origin, seq := m[0], m[1]
					if origin < 1 || origin > 8 || seq < 0 || seq > 65535 {
						checkCountCode(t, c.name, c.n, origin, seq, impl.ErrRange)
						continue
					}
					want := 0
					for _, r := range c.n.Routers {
						if hasKey(r.Dups, 65536*origin+seq) {
							want++
						}
					}
					checkCount(t, c.name, c.n, origin, seq, want)
				}
			}
		}
	}
}

// Bytes beyond the keys: numbers that would make the key of another mark are out of their bounds all the same.
func TestPromise15MarksByOtherNumbersOfTheirKey(t *testing.T) {
	n := bareNet(2)
	n.Routers[1].Dups = []impl.Tuple{{Key: 2*65536 + 5, Until: 40}, {Key: 8*65536 + 65535, Until: 40}}
	checkCount(t, "two marks", n, 2, 5, 1)
	checkCount(t, "two marks", n, 8, 65535, 1)
	for _, c := range [][2]int{{1, 65536 + 5}, {0, 2*65536 + 5}, {3, 5 - 65536}, {9, -1}, {7, 2*65536 - 1}, {2 + 1<<48, 5}, {2, 5 + 1<<32}} {
		checkCountCode(t, "two marks", n, c[0], c[1], impl.ErrRange)
	}
}
