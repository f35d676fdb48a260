package tests

import (
	"slices"
	"strconv"
	"strings"
	"testing"

	"loop.example/g00419/impl"
)

// checkWhole asks for the theorem of the whole: 64 ticks behind these lines, at the next ticks, and later on, all routers
// have the true shortest ways, walks end where they shall at the true distances, and relays cover.
func checkWhole(t *testing.T, lines []string) {
	t.Helper()
	what := "a plain net behind " + briefLines(lines)
	n, _, code := impl.RunLines(lines)
	if code != impl.OK {
		t.Fatalf("%s: code %d", what, code)
	}
	checkCover(t, what, n)
	for _, more := range []int{againTicks, 1, 1, 13, 40} {
		n = ticksOf(t, what, n, more)
		checkTrue(t, what, n)
	}
	// The true distances themselves are held against a reckoning of their own.
	w := auditOf(n)
	for a := 1; a <= 4; a++ {
		for b := 1; b <= 4; b++ {
			cost, code := w.distance(a, b)
			checkDistance(t, what, n, a, b, cost, code)
		}
	}
}

// checkWholeSaid asks for the theorem by lines, too: what a console says of its net behind 64 ticks.
func checkWholeSaid(t *testing.T, lines []string) {
	t.Helper()
	asking := []string{"ticks " + strconv.Itoa(againTicks), "converged"}
	for a := 1; a <= 4; a++ {
		for b := 1; b <= 4; b++ {
			asking = append(asking, "walk "+strconv.Itoa(a)+" "+strconv.Itoa(b))
		}
	}
	first := lines[:min(len(lines), maxLines-len(asking))]
	_, ahead, _ := impl.RunLines(first)
	n, said, code := impl.RunLines(append(slices.Clone(first), asking...))
	if code != impl.OK || len(said) != len(ahead)+len(asking) {
		t.Fatalf("behind %s: %q, code %d", briefLines(first), said, code)
	}
	said = said[len(ahead):]
	if said[0] != "ok" || said[1] != "yes" {
		t.Fatalf("behind %s: %q", briefLines(first), said)
	}
	for i, text := range said[2:] {
		a, b := 1+i/4, 1+i%4
		_, code := impl.TrueDistance(n, a, b)
		want, end := "ok "+strconv.Itoa(a), " "+strconv.Itoa(b)
		if code == impl.ErrNone {
			want, end = "none "+strconv.Itoa(a), "none "+strconv.Itoa(a)
		}
		if !strings.HasPrefix(text, want) || !strings.HasSuffix(text, end) {
			t.Fatalf("behind %s a walk from %d to %d: %q", briefLines(first), a, b, text)
		}
	}
}

// upsetLine is drawn of the lines that change a net, most of them without a fault.
func (d *draws) upsetLine() string {
	a, b := strconv.Itoa(1+d.next(4)), strconv.Itoa(1+d.next(4))
	switch d.next(9) {
	case 0, 1:
		return "ticks " + strconv.Itoa([]int{d.next(8), d.next(40), d.next(201)}[d.next(3)])
	case 2, 3:
		signs := ""
		for range 1 + d.next(9) {
			signs += strconv.Itoa(d.next(2))
		}
		return "lossy " + strconv.Itoa(d.next(20)) + " " + signs
	case 4:
		return "lossy " + strconv.Itoa(1+d.next(9)) + " 1"
	case 5, 6:
		return "cost " + a + " " + b + " " + strconv.Itoa(d.next(2)*d.next(257))
	case 7:
		return "restart " + a + " " + strconv.Itoa([]int{d.number(), d.next(60), 65535 - d.next(60), 32768}[d.next(4)])
	}
	return d.line()
}

func (d *draws) upsetLines() []string {
	var list []string
	for range d.next(maxLines + 1) {
		list = append(list, d.upsetLine())
	}
	return list
}

func TestPromise18WithoutLines(t *testing.T) {
	checkWhole(t, nil)
	checkWhole(t, []string{"", "#", "go", "converged"})
	checkWholeSaid(t, nil)
	for _, lines := range append(aheads(), memoryLines()...) {
		checkWhole(t, lines)
		checkWholeSaid(t, lines)
	}
}

func TestPromise18WhateverLinesCome(t *testing.T) {
	d := &draws{180}
	upset := 0
	for range 60 {
		lines := d.upsetLines()
		n, _, _ := impl.RunLines(lines)
		if ok, _ := impl.Converged(n); !ok {
			upset++
		}
		checkWhole(t, lines)
		checkWholeSaid(t, lines)
	}
	if upset < 25 {
		t.Error("too few are upset to tell anything:", upset)
	}
}

func TestPromise18LinesOfEachKind(t *testing.T) {
	d := &draws{181}
	for range 60 {
		lines := d.lines(d.next(maxLines + 1))
		checkWhole(t, lines)
		checkWholeSaid(t, lines)
	}
}

// Each choice of the five ways, there in both directions, in one alone, or not at all.
func TestPromise18EachChoiceOfWays(t *testing.T) {
	ends := [][2]int{{1, 2}, {2, 3}, {3, 4}, {4, 1}, {1, 3}}
	for mix := range 3 * 3 * 3 * 3 * 3 {
		lines := []string{"ticks " + strconv.Itoa(20+mix%7)}
		for _, e := range ends {
			if mix%3 > 0 {
				lines = append(lines, "cost "+strconv.Itoa(e[0])+" "+strconv.Itoa(e[1])+" 0")
			}
			if mix%3 > 1 {
				lines = append(lines, "cost "+strconv.Itoa(e[1])+" "+strconv.Itoa(e[0])+" 0")
			}
			mix /= 3
		}
		checkWhole(t, lines)
	}
}

// Routers that begin anew, one or all, with numbers that are older than theirs, the same, and opposite ones; and once
// more while the others still hold what they heard.
func TestPromise18RoutersThatBeginAnew(t *testing.T) {
	for _, seq := range []string{"0", "1", "20", "30", "31", "35", "60", "32767", "32768", "65500", "65535"} {
		for a := 1; a <= 4; a++ {
			one := "restart " + strconv.Itoa(a) + " " + seq
			checkWhole(t, []string{"ticks 45", one})
			checkWhole(t, []string{"ticks 45", one, "ticks 7", one, "lossy 5 1", one})
			checkWhole(t, []string{"ticks 45", "lossy 30 1", one, "lossy 9 011"})
		}
		all := []string{"ticks 45", "restart 1 " + seq, "restart 2 " + seq, "restart 3 " + seq, "restart 4 " + seq}
		checkWhole(t, all)
		checkWhole(t, append(all, "ticks 11", "restart 3 "+seq))
	}
}

// All is lost as long as lines can make it, and the most lines that a run takes.
func TestPromise18AfterTheMostThatLinesCanDo(t *testing.T) {
	for _, line := range []string{"ticks 200", "lossy 200 1", "lossy 200 011", "lossy 199 0010", "restart 3 9", "cost 1 2 0", "go"} {
		checkWhole(t, slices.Repeat([]string{line}, maxLines))
		checkWhole(t, append([]string{"ticks 45"}, slices.Repeat([]string{line, "restart 2 65535"}, 29)...))
	}
}
