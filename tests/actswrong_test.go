package tests

import (
	"math"
	"slices"
	"strconv"
	"strings"
	"testing"

	"loop.example/g00419/impl"
)

// checkNoRun asks for this code, and for neither a net nor codes of acts.
func checkNoRun(t *testing.T, what string, n impl.Net, acts []impl.Act, want int) {
	t.Helper()
	mustNotPanic(t, "ActsRun on "+what, func() {
		if got, codes, code := impl.ActsRun(n, acts); !sameNet(got, impl.Net{}) || len(codes) != 0 || code != want {
			t.Errorf("ActsRun of %s on %s = %s, %s, %d, not code %d", briefActs(acts), what, briefNet(got), brief(codes), code, want)
		}
	})
}

// faultyActs have a fault of their own each, or none.
func faultyActs() []impl.Act {
	return []impl.Act{
		{}, {Kind: 6}, {Kind: -1}, {Kind: math.MinInt}, ticksAct(0), ticksAct(1), ticksAct(-1), ticksAct(201), lossyAct(0), lossyAct(1, 1), lossyAct(1, 2), lossyAct(201, 0),
		lossyAct(1, make([]int, impl.MaxList+1)...), costAct(1, 2, 9), costAct(1, 1, 9), costAct(1, 2, 257), costAct(9, 0, -1), restartAct(1, 5), restartAct(0, 5), restartAct(1, 65536),
		injectAct(1, 2, "zz"), injectAct(1, 1, "zz"), injectAct(1, 2, strings.Repeat("z", maxFrame+1)), injectAct(0, 9, strings.Repeat("z", impl.MaxText+1)),
	}
}

func TestPromise16WrongNetsAreBad(t *testing.T) {
	for _, c := range wrongNets() {
		for _, a := range []impl.Act{ticksAct(0), ticksAct(1), lossyAct(0), costAct(1, 2, 9), restartAct(1, 5), injectAct(1, 2, "zz")} {
			checkNoNet(t, "ActDo of "+briefAct(a)+" on "+c.name, func() (impl.Net, int) { return impl.ActDo(c.n, a) }, impl.ErrBad)
		}
		checkNoRun(t, c.name, c.n, nil, impl.ErrBad)
		checkNoRun(t, c.name, c.n, []impl.Act{ticksAct(1), costAct(1, 2, 9)}, impl.ErrBad)
	}
}

// A net that is not right is bad ahead of all faults of acts, and of how many there are.
func TestPromise16BadAheadOfFaultsOfActs(t *testing.T) {
	late := atTime(meshNet(2), maxTick)
	late.Costs[0] = 1
	full := fullPassing(maxAir)
	full.Air[7].At = 12
	for _, c := range append(someWrongNets(), namedNet{"a wrong one at its end", late}, namedNet{"a wrong one with a full air", full}, namedNet{"a zero net", impl.Net{}}) {
		for _, a := range faultyActs() {
			checkNoNet(t, "ActDo of "+briefAct(a)+" on "+c.name, func() (impl.Net, int) { return impl.ActDo(c.n, a) }, impl.ErrBad)
			for _, count := range []int{1, maxActs, maxActs + 1, impl.MaxList} {
				checkNoRun(t, c.name, c.n, slices.Repeat([]impl.Act{a}, count), impl.ErrBad)
			}
		}
	}
}

// Each bound of each field of each router, one above and one below: an act asks of a net what NetOK does.
func TestPromise16ActsAskForAllThatIsRight(t *testing.T) {
	for _, c := range wrongFieldNets() {
		for _, a := range []impl.Act{ticksAct(0), lossyAct(0), costAct(1, 2, 9), restartAct(1, 5), restartAct(2, 5), restartAct(3, 5), injectAct(1, 2, "zz"), {}} {
			checkNoNet(t, "ActDo of "+briefAct(a)+" with "+c.name, func() (impl.Net, int) { return impl.ActDo(c.n, a) }, impl.ErrBad)
			checkNoRun(t, c.name, c.n, []impl.Act{a}, impl.ErrBad)
		}
	}
}

// How many acts there are is asked of right nets: too long ahead of bad, bad ahead of too many.
func TestPromise16RunsOfTooManyActs(t *testing.T) {
	for _, c := range slices.Concat(actNets(), edgeNets()) {
		for _, a := range faultyActs() {
			for _, count := range []int{maxActs + 1, maxActs + 2, 100, impl.MaxList - 1, impl.MaxList} {
				checkNoRun(t, c.name, c.n, slices.Repeat([]impl.Act{a}, count), impl.ErrMany)
			}
		}
	}
	for _, c := range slices.Concat(actNets(), someWrongNets(), []namedNet{{"a zero net", impl.Net{}}}) {
		for _, count := range []int{impl.MaxList + 1, 2 * impl.MaxList} {
			checkNoRun(t, c.name, c.n, make([]impl.Act, count), impl.ErrLong)
			checkNoRun(t, c.name, c.n, slices.Repeat([]impl.Act{ticksAct(1)}, count), impl.ErrLong)
		}
	}
}

// numberFields are an act's fields that any integer may be in.
var numberFields = []struct {
	name string
	set  func(a *impl.Act, x int)
}{
	{"Kind", func(a *impl.Act, x int) { a.Kind = x }},
	{"A", func(a *impl.Act, x int) { a.A = x }},
	{"B", func(a *impl.Act, x int) { a.B = x }},
	{"N", func(a *impl.Act, x int) { a.N = x }},
	{"Lose", func(a *impl.Act, x int) { a.Lose = []int{0, x} }},
}

func TestPromise16AnyIntegerInEachField(t *testing.T) {
	nets := []namedNet{
		{"one router", meshNet(1)}, {"two that have run", ranNet(netWith(2, 0, 4, 6, 0), 34)}, {"two at their end", atTime(netWith(2, 0, 4, 6, 0), maxTick)},
		{"two near their end", atTime(netWith(2, 0, 4, 6, 0), maxTick-9)}, {"a full air", fullPassing(maxAir)},
	}
	for _, c := range nets {
		for _, base := range []impl.Act{ticksAct(1), lossyAct(1, 1), costAct(1, 2, 9), restartAct(1, 9), injectAct(1, 2, "zz"), injectAct(2, 1, "")} {
			for _, f := range numberFields {
				for _, x := range wildNetInts {
					a := base
					f.set(&a, x)
					if len(c.n.Routers) > 2 && 9 < a.N && a.N <= maxTicks {
						continue
					}
					checkAct(t, c.name+", "+f.name+" "+strconv.Itoa(x), c.n, a)
				}
			}
		}
		for _, x := range wildNetInts {
			for _, kind := range []int{1, 2, 3, 4, 5, 6, x} {
				if a := (impl.Act{Kind: kind, A: x, B: x, N: x, Lose: []int{x}}); len(c.n.Routers) <= 2 || x < 9 || x > maxTicks {
					checkAct(t, c.name+", all "+strconv.Itoa(x), c.n, a)
				}
			}
		}
	}
}

// Any integer is told, or makes one of the faults that the chapter names, whatever field it is in.
func TestPromise16AnyIntegerInEachFieldOfAText(t *testing.T) {
	for _, base := range []impl.Act{ticksAct(1), lossyAct(1, 1, 0), costAct(1, 2, 9), restartAct(1, 9), injectAct(1, 2, "zz"), {}} {
		for _, f := range numberFields {
			for _, x := range append([]int{mostNumber, firstTooFar, -mostNumber, -firstTooFar}, wildNetInts...) {
				a := base
				f.set(&a, x)
				numbers := map[int][]int{impl.AcTicks: {a.N}, impl.AcLossy: {a.N}, impl.AcCost: {a.A, a.B, a.N}, impl.AcRestart: {a.A, a.N}}[a.Kind]
				words := []string{map[int]string{impl.AcTicks: "ticks", impl.AcLossy: "lossy", impl.AcCost: "cost", impl.AcRestart: "restart"}[a.Kind]}
				for _, n := range numbers {
					words = append(words, strconv.Itoa(n))
				}
				switch {
				case len(numbers) == 0:
					checkNoText(t, a, impl.ErrForm)
				case a.Kind != impl.AcLossy:
					checkActText(t, a, strings.Join(words, " "))
				case len(a.Lose) == 0 || !areWantSigns(a.Lose):
					checkNoText(t, a, impl.ErrBad)
				default:
					checkActText(t, a, strings.Join(append(words, signsWord(a.Lose)), " "))
				}
			}
		}
	}
}

// Of several faults of one act the first one that its chapter names is told.
func TestPromise16SeveralFaultsAtOnce(t *testing.T) {
	long, far := strings.Repeat("z", impl.MaxText+1), strings.Repeat("z", maxFrame+1)
	late, full := atTime(netWith(2, 0, 4, 6, 0), maxTick), fullPassing(maxAir)
	checkActCode(t, "its end", late, lossyAct(201, 0), impl.ErrRange)
	checkActCode(t, "its end", late, lossyAct(1, 2), impl.ErrRange)
	checkActCode(t, "its end", late, lossyAct(0, 2), impl.ErrRange)
	checkActCode(t, "its end", late, lossyAct(-1, 2), impl.ErrRange)
	checkActCode(t, "its end", late, ticksAct(-1), impl.ErrRange)
	checkActCode(t, "its end", late, impl.Act{Kind: 6, N: 201, Lose: []int{2}, Bytes: long}, impl.ErrForm)
	checkActCode(t, "a full air", full, injectAct(1, 2, long), impl.ErrRange)
	checkActCode(t, "a full air", full, injectAct(1, 1, long), impl.ErrRange)
	checkActCode(t, "a full air", full, injectAct(0, 9, far), impl.ErrRange)
	checkActCode(t, "a full air", full, injectAct(1, 2, far), impl.ErrRange)
	checkActCode(t, "a full air", full, injectAct(1, 7, ""), impl.ErrRange)
	checkActCode(t, "a full air", full, injectAct(1, 2, ""), impl.ErrFull)
	checkActCode(t, "two", netWith(2, 0, 4, 6, 0), costAct(3, 3, -1), impl.ErrRange)
	checkActCode(t, "two", netWith(2, 0, 4, 6, 0), restartAct(3, -1), impl.ErrRange)
}

// A list within an act is no argument of its own: no count of its signs is too long, whatever NetTick says of such a list.
func TestPromise16ManySignsAreDone(t *testing.T) {
	for _, c := range actNets() {
		for _, size := range []int{impl.MaxList, impl.MaxList + 1, 2 * impl.MaxList, impl.MaxText + 1} {
			for _, lose := range [][]int{make([]int, size), slices.Repeat([]int{1}, size), signsOf(size)} {
				checkActCode(t, c.name+" near its end", atTime(c.n, maxTick-2), lossyAct(3, lose...), impl.ErrEnd)
				for _, count := range []int{0, 1, 3} {
					if got := checkAct(t, c.name, c.n, lossyAct(count, lose...)); got.Time != c.n.Time+count {
						t.Errorf("%d ticks with %d signs on %s: from %d to %d", count, size, c.name, c.n.Time, got.Time)
					}
				}
				checkActCode(t, c.name, c.n, lossyAct(201, lose...), impl.ErrRange)
				checkActCode(t, c.name, c.n, lossyAct(-1, lose...), impl.ErrRange)
				for _, wrong := range []int{2, -1} {
					checkActCode(t, c.name, c.n, lossyAct(1, append(slices.Clone(lose), wrong)...), impl.ErrRange)
					checkActCode(t, c.name, c.n, lossyAct(0, append(slices.Clone(lose), wrong)...), impl.ErrRange)
				}
				checkRun(t, c.name, c.n, []impl.Act{ticksAct(1), lossyAct(1, lose...), lossyAct(2, lose...)}, impl.OK, impl.OK, impl.OK)
			}
		}
	}
}

// Bytes within an act are no argument of their own either: they are out of their bounds, however many they are.
func TestPromise16ManyBytesAreOutOfBounds(t *testing.T) {
	for _, c := range append(actNets(), namedNet{"a full air", fullPassing(maxAir)}) {
		if len(c.n.Routers) < 2 {
			continue
		}
		for _, size := range []int{maxFrame + 1, impl.MaxText - 1, impl.MaxText, impl.MaxText + 1, 2 * impl.MaxText, 1 << 20} {
			for _, a := range []impl.Act{injectAct(1, 2, strings.Repeat("z", size)), injectAct(2, 1, strings.Repeat("\x00", size)), injectAct(1, 1, strings.Repeat("z", size))} {
				checkActCode(t, c.name, c.n, a, impl.ErrRange)
				checkActCode(t, c.name+" at its end", atTime(c.n, maxTick), a, impl.ErrRange)
				checkRun(t, c.name, c.n, []impl.Act{ticksAct(1), a, ticksAct(1)}, impl.OK, impl.ErrRange, impl.OK)
			}
		}
	}
}
