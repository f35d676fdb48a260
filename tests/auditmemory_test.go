package tests

import (
	"fmt"
	"slices"
	"testing"

	"loop.example/g00419/impl"
)

// An auditAnswer is all that a call of the audit may answer.
type auditAnswer struct {
	list   []int
	number int
	yes    bool
	code   int
}

func (a auditAnswer) lists() []string { return []string{fmt.Sprint(a.list)} }

func (a auditAnswer) numbers() string { return fmt.Sprint(a.number, a.yes, a.code) }

func (a auditAnswer) wipe(int) { clear(a.list[:cap(a.list)]) }

func (a auditAnswer) isAs(b auditAnswer) bool {
	return slices.Equal(a.list, b.list) && a.numbers() == b.numbers()
}

type auditCall struct {
	name string
	call func(n impl.Net) auditAnswer
}

func walkCall(a, b int) auditCall {
	return auditCall{fmt.Sprint("Walk ", a, " ", b), func(n impl.Net) (x auditAnswer) {
		x.list, x.code = impl.Walk(n, a, b)
		return x
	}}
}

func distanceCall(a, b int) auditCall {
	return auditCall{fmt.Sprint("TrueDistance ", a, " ", b), func(n impl.Net) (x auditAnswer) {
		x.number, x.code = impl.TrueDistance(n, a, b)
		return x
	}}
}

func countCall(origin, seq int) auditCall {
	return auditCall{fmt.Sprint("CountMarks ", origin, " ", seq), func(n impl.Net) (x auditAnswer) {
		x.number, x.code = impl.CountMarks(n, origin, seq)
		return x
	}}
}

// auditCalls has all calls of the audit, with numbers for which there is an answer, and with others.
var auditCalls = []auditCall{
	{"Converged", func(n impl.Net) (x auditAnswer) {
		x.yes, x.code = impl.Converged(n)
		return x
	}},
	{"AllCover", func(n impl.Net) (x auditAnswer) {
		x.yes, x.code = impl.AllCover(n)
		return x
	}},
	{"ErrorsOf", func(n impl.Net) (x auditAnswer) {
		x.list, x.code = impl.ErrorsOf(n)
		return x
	}},
	walkCall(1, 1), walkCall(1, 2), walkCall(1, 4), walkCall(4, 1), walkCall(6, 1), walkCall(2, 6), walkCall(0, 1), walkCall(1, 9),
	distanceCall(1, 1), distanceCall(1, 2), distanceCall(4, 1), distanceCall(2, 6), distanceCall(1, 0), distanceCall(9, 1),
	countCall(1, 0), countCall(2, 30), countCall(8, 65535), countCall(3, 5), countCall(9, 0), countCall(1, -1),
}

// auditedNets are those of all calls on nets, and ones whose walks are long, end on the way, or go round.
func auditedNets() []impl.Net {
	return append(memoryNets(), knowingNet(lineNet(6)), knowingNet(meshNet(6)), goingRound(6, 1, 4, 5, 6), goingRound(4, 4, 1, 2))
}

func TestPromise1AuditedNetsStayAsTheyWere(t *testing.T) {
	for _, given := range auditedNets() {
		g := guardNet(given, nil, "")
		before := g.kept()
		for _, c := range auditCalls {
			c.call(g.n)
			if !g.isAs(before) {
				t.Fatalf("%s wrote into its net, or around it: %s", c.name, briefNet(given))
			}
		}
	}
}

func TestPromise1AuditsAreNewMemory(t *testing.T) {
	for _, given := range auditedNets() {
		for _, c := range auditCalls {
			g := guardNet(given, nil, "")
			checkNewMemory(t, c.name+" of "+briefNet(given), g, func() answer { return c.call(g.n) })
			checkSharesNone(t, c.name+" of "+briefNet(given), func() answer { return c.call(given) })
		}
	}
}

// What was called ahead, with this net or another, changes no answer.
func TestPromise1AuditsAreAlikeAtEachCall(t *testing.T) {
	nets, wrongs := auditedNets(), someWrongNets()
	var first [][]auditAnswer
	for _, n := range nets {
		var list []auditAnswer
		for _, c := range auditCalls {
			list = append(list, c.call(n))
		}
		first = append(first, list)
	}
	for i := len(nets) - 1; i >= 0; i-- {
		for j := len(auditCalls) - 1; j >= 0; j-- {
			auditCalls[j].call(wrongs[(i+j)%len(wrongs)].n)
			impl.NetTick(nets[i], nil)
			if got := auditCalls[j].call(clonedNet(nets[i])); !got.isAs(first[i][j]) {
				t.Errorf("%s of %s: %v, first %v", auditCalls[j].name, briefNet(nets[i]), got, first[i][j])
			}
		}
	}
}

func TestPromise1AuditCallsAtOnceAnswerAlike(t *testing.T) {
	n := goingRound(6, 1, 4, 5, 6)
	var want []auditAnswer
	for _, c := range auditCalls {
		want = append(want, c.call(n))
	}
	done := make(chan bool)
	for range 8 {
		go func() {
			right := true
			for range 50 {
				for i, c := range auditCalls {
					right = right && c.call(n).isAs(want[i])
				}
			}
			done <- right
		}()
	}
	for range 8 {
		if !<-done {
			t.Error("calls at once answer otherwise")
		}
	}
}

// Lists that are empty and lists that are nil are the same net.
func TestPromise1AuditsOfEmptyListsAndOfNone(t *testing.T) {
	for _, none := range beginnings() {
		empty := clonedNet(none.n)
		empty.Air = []impl.Frame{}
		for i := range empty.Routers {
			r := &empty.Routers[i]
			r.Links, r.Two, r.Selectors, r.Dups, r.Last = []impl.Link{}, []impl.Tuple{}, []impl.Tuple{}, []impl.Tuple{}, []impl.Edge{}
			r.Topology = impl.Topology{Sources: []impl.Source{}, Edges: []impl.Tuple{}}
		}
		for _, c := range auditCalls {
			if got, want := c.call(empty), c.call(none.n); !got.isAs(want) {
				t.Errorf("%s of %s with empty lists: %v, not %v", c.name, none.name, got, want)
			}
		}
	}
}
