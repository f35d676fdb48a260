package tests

import (
	"regexp"
	"slices"
	"strconv"
	"strings"
	"testing"

	"loop.example/g00419/impl"
)

const maxLines = 60

// wantPlain is the plain net by chapter 17's words.
func wantPlain() impl.Net {
	n := netWith(4,
		0, 1, 9, 3,
		1, 0, 2, 0,
		9, 2, 0, 2,
		3, 0, 2, 0)
	for i, will := range []int{3, 3, 7, 1} {
		n.Routers[i].Will = will
	}
	return n
}

// The words of chapters 1 and 17 as patterns. Words go by bytes, so the patterns of lines are held against bytes that
// are put together anew with one blank between words.
var (
	showPattern      = regexp.MustCompile(`\Ashow ` + aNumber + `\z`)
	relaysPattern    = regexp.MustCompile(`\Arelays ` + aNumber + `\z`)
	walkPattern      = regexp.MustCompile(`\Awalk ` + aNumber + ` ` + aNumber + `\z`)
	convergedPattern = regexp.MustCompile(`\Aconverged\z`)
)

// wantWords are the runs of bytes that are not 32.
func wantWords(line string) []string {
	return slices.DeleteFunc(strings.Split(line, " "), func(word string) bool { return word == "" })
}

func numbersText(word string, list []int) string {
	for _, x := range list {
		word += " " + strconv.Itoa(x)
	}
	return word
}

// wantWord is the word of a code that a walk, or an act on a plain net, may have.
func wantWord(code int) string {
	return map[int]string{impl.OK: "ok", impl.ErrRange: "range", impl.ErrNone: "none", impl.ErrLoop: "loop"}[code]
}

// wantLine says, by the words of chapter 17 and those that it names, what a line makes of a net, and what is said.
func wantLine(n impl.Net, line string) (impl.Net, []string) {
	words := wantWords(line)
	if len(words) == 0 || words[0][0] == '#' {
		return n, nil
	}
	line = strings.Join(words, " ")
	isRouter := func(a int) bool { return 1 <= a && a <= len(n.Routers) }
	if found := showPattern.FindStringSubmatch(line); found != nil && isRouter(numberOf(found[1])) {
		r := n.Routers[numberOf(found[1])-1]
		return n, append(wantRouterText(r), "errors "+strconv.Itoa(r.Errors))
	}
	if found := relaysPattern.FindStringSubmatch(line); found != nil && isRouter(numberOf(found[1])) {
		r := n.Routers[numberOf(found[1])-1]
		return n, []string{numbersText("relays", wantFlood(r.Two, r.Links, r.Addr, r.Now))}
	}
	if found := walkPattern.FindStringSubmatch(line); found != nil && isRouter(numberOf(found[1])) && isRouter(numberOf(found[2])) {
		list, code := auditOf(n).walk(numberOf(found[1]), numberOf(found[2]))
		return n, []string{numbersText(wantWord(code), list)}
	}
	if convergedPattern.MatchString(line) {
		return n, []string{map[bool]string{true: "yes", false: "no"}[auditOf(n).converged()]}
	}
	a, code := wantReadAct(line)
	if code != impl.OK {
		return n, []string{"error form"}
	}
	n, code = wantAct(n, a)
	if code != impl.OK {
		return n, []string{"error " + wantWord(code)}
	}
	return n, []string{"ok"}
}

func wantRun(lines []string) (impl.Net, []string) {
	n := wantPlain()
	var said []string
	for _, line := range lines {
		var more []string
		n, more = wantLine(n, line)
		said = append(said, more...)
	}
	return n, said
}

// briefLines tells the beginning of lines that may be many, or long.
func briefLines(lines []string) string {
	var list []string
	for _, line := range lines[:min(len(lines), 70)] {
		list = append(list, strconv.Quote(line[:min(len(line), 60)]))
	}
	return strconv.Itoa(len(lines)) + " lines: " + strings.Join(list, ", ")
}

// checkSays asks for this net and for all that is said, by hand.
func checkSays(t *testing.T, lines []string, want impl.Net, wantSaid []string) impl.Net {
	t.Helper()
	var got impl.Net
	mustNotPanic(t, "RunLines of "+briefLines(lines), func() {
		n, said, code := impl.RunLines(lines)
		got = n
		if !slices.Equal(said, wantSaid) || code != impl.OK {
			t.Fatalf("RunLines of %s says\n%q, %d, not\n%q", briefLines(lines), said, code, wantSaid)
		}
		checkNet(t, "RunLines of "+briefLines(lines), n, code, want, impl.OK)
	})
	return got
}

// checkRunLines holds lines against the chapter's words; said, if there is any, tells by hand what those must come to.
func checkRunLines(t *testing.T, lines []string, said ...string) impl.Net {
	t.Helper()
	want, wantSaid := wantRun(lines)
	if len(said) > 0 && !slices.Equal(wantSaid, said) {
		t.Fatalf("the reckoning itself says to %s\n%q, not\n%q", briefLines(lines), wantSaid, said)
	}
	return checkSays(t, lines, want, wantSaid)
}

// checkLast asks what is said to the last one of some lines.
func checkLast(t *testing.T, ahead []string, line string, said ...string) {
	t.Helper()
	_, first := wantRun(ahead)
	checkRunLines(t, append(slices.Clone(ahead), line), append(first, said...)...)
}

// aheads are lines behind which a plain net is at its beginning, has just heard, has run, has lost much, has ways that
// were changed, and has routers that began anew.
func aheads() [][]string {
	return [][]string{
		nil,
		{"ticks 3"},
		{"ticks 45"},
		{"ticks 45", "lossy 5 1", "ticks 1"},
		{"ticks 45", "cost 1 2 0", "cost 2 1 0", "ticks 50"},
		{"ticks 45", "cost 3 4 0", "ticks 9"},
		{"ticks 30", "restart 3 500", "ticks 4"},
	}
}

// manyLines has lines of each kind, also ones that are none, and ones that say nothing.
func manyLines() []string {
	return []string{
		"# a net", "converged", "", "walk 1 3", "show 1", "ticks 7", "relays 2", "show 1", "ticks 40", "converged", "  ", "show 2", "walk 4 2", "walk 2 2", "relays 1",
		"go", "cost 1 2 0", "#", "lossy 3 011", "walk 1 2", "ticks 201", "restart 4 65535", "show 4", "show 9", "cost 1 1 1", " ticks   9 ", "converged now", "restart 5 1", "show 3", "converged",
	}
}

func TestPromise17ThePlainNet(t *testing.T) {
	n := impl.PlainNet()
	checkNet(t, "PlainNet", n, impl.OK, wantPlain(), impl.OK)
	if n.Time != 0 || len(n.Air) != 0 || len(n.Routers) != 4 {
		t.Fatal("PlainNet:", briefNet(n))
	}
	for i, r := range n.Routers {
		if want := (impl.Router{Addr: i + 1, Will: []int{3, 3, 7, 1}[i]}); !sameRouter(r, want) {
			t.Errorf("router %d of the plain net: %s", i+1, briefRouter(r))
		}
	}
	ways := map[[2]int]int{{1, 2}: 1, {2, 3}: 2, {3, 4}: 2, {4, 1}: 3, {1, 3}: 9}
	for a := 1; a <= 4; a++ {
		for b := 1; b <= 4; b++ {
			want := ways[[2]int{a, b}] + ways[[2]int{b, a}]
			if cost, code := impl.CostAt(n, a, b); cost != want || code != impl.OK {
				t.Errorf("the way from %d to %d costs %d, %d, not %d", a, b, cost, code, want)
			}
		}
	}
	if made, code := impl.NewNet([]int{3, 3, 7, 1}, n.Costs); code != impl.OK || !sameNet(made, n) {
		t.Error("NewNet makes another one:", briefNet(made))
	}
}

func TestPromise17NoLines(t *testing.T) {
	for _, lines := range [][]string{nil, {}} {
		checkSays(t, lines, wantPlain(), nil)
	}
}

// What is said, and what the net is then, is told by hand.
func TestPromise17ARunByHand(t *testing.T) {
	n := checkRunLines(t, []string{
		"# a net", "", "converged", "walk 1 3", "show 1", "relays 1", "ticks 45", "converged", "show 1", "show 2", "show 3", "show 4", "walk 1 3", "walk 3 1", "walk 4 2", "walk 2 4", "walk 1 1",
		"relays 1", "relays 2", "relays 3", "relays 4",
	}, "no", "none 1", "errors 0", "relays", "ok", "yes",
		"2 sym 1 1", "3 sym 9 9", "4 sym 3 3", "2 by 2 cost 1 hops 1", "3 by 2 cost 3 hops 2", "4 by 4 cost 3 hops 1", "errors 0",
		"1 sym 1 1", "3 sym 2 2", "1 by 1 cost 1 hops 1", "3 by 3 cost 2 hops 1", "4 by 1 cost 4 hops 2", "errors 0",
		"1 sym 9 9", "2 sym 2 2", "4 sym 2 2", "1 by 2 cost 3 hops 2", "2 by 2 cost 2 hops 1", "4 by 4 cost 2 hops 1", "errors 0",
		"1 sym 3 3", "3 sym 2 2", "1 by 1 cost 3 hops 1", "2 by 1 cost 4 hops 2", "3 by 3 cost 2 hops 1", "errors 0",
		"ok 1 2 3", "ok 3 2 1", "ok 4 1 2", "ok 2 1 4", "ok 1",
		"relays 3", "relays 3", "relays", "relays 3")
	if n.Time != 45 || len(n.Routers[0].Links) != 3 {
		t.Error("behind 45 ticks:", briefNet(n))
	}
}

// At 44 router 1 has heard 2 for the last time, so their link is symmetric until 50, and known until 56.
func TestPromise17ShowsOfEachStatus(t *testing.T) {
	checkRunLines(t, []string{
		"ticks 2", "show 1", "show 2", "ticks 1", "show 2", "show 1", "ticks 42", "cost 2 1 0", "ticks 4", "show 1", "show 2", "ticks 1", "show 1", "show 2",
		"ticks 5", "show 1", "show 2", "ticks 1", "show 1", "show 2",
	}, "ok", "3 heard 9 0", "errors 0", "1 heard 1 0", "3 heard 2 0", "errors 0",
		"ok", "1 heard 1 0", "3 heard 2 0", "errors 0",
		"2 sym 1 1", "3 heard 9 0", "4 sym 3 3", "2 by 2 cost 1 hops 1", "4 by 4 cost 3 hops 1", "errors 0",
		"ok", "ok", "ok",
		"2 sym 1 1", "3 sym 9 9", "4 sym 3 3", "2 by 2 cost 1 hops 1", "3 by 2 cost 3 hops 2", "4 by 4 cost 3 hops 1", "errors 0",
		"1 sym 1 1", "3 sym 2 2", "1 by 1 cost 1 hops 1", "3 by 3 cost 2 hops 1", "4 by 1 cost 4 hops 2", "errors 0",
		"ok",
		"2 lost 1 1", "3 sym 9 9", "4 sym 3 3", "2 by 4 cost 7 hops 3", "3 by 4 cost 5 hops 2", "4 by 4 cost 3 hops 1", "errors 0",
		"1 sym 1 1", "3 sym 2 2", "1 by 1 cost 1 hops 1", "3 by 3 cost 2 hops 1", "4 by 1 cost 4 hops 2", "errors 0",
		"ok",
		"2 lost 1 1", "3 sym 9 9", "4 sym 3 3", "2 by 4 cost 7 hops 3", "3 by 4 cost 5 hops 2", "4 by 4 cost 3 hops 1", "errors 0",
		"1 heard 1 1", "3 sym 2 2", "1 by 3 cost 7 hops 3", "3 by 3 cost 2 hops 1", "4 by 3 cost 4 hops 2", "errors 0",
		"ok",
		"3 sym 9 9", "4 sym 3 3", "2 by 4 cost 7 hops 3", "3 by 4 cost 5 hops 2", "4 by 4 cost 3 hops 1", "errors 0",
		"1 heard 1 1", "3 sym 2 2", "1 by 3 cost 7 hops 3", "3 by 3 cost 2 hops 1", "4 by 3 cost 4 hops 2", "errors 0")
}

func TestPromise17EachLineOfEachRouter(t *testing.T) {
	for _, ahead := range aheads() {
		for a := -1; a <= 6; a++ {
			lines := append(slices.Clone(ahead), "show "+strconv.Itoa(a), "relays "+strconv.Itoa(a))
			for b := -1; b <= 6; b++ {
				lines = append(lines, "walk "+strconv.Itoa(a)+" "+strconv.Itoa(b))
			}
			checkRunLines(t, append(lines, "converged"))
			if a < 1 || a > 4 {
				for _, line := range []string{"show ", "relays ", "walk 1 ", "walk 4 "} {
					checkLast(t, ahead, line+strconv.Itoa(a), "error form")
				}
				checkLast(t, ahead, "walk "+strconv.Itoa(a)+" 1", "error form")
				checkLast(t, ahead, "walk "+strconv.Itoa(a)+" "+strconv.Itoa(a), "error form")
			} else {
				checkLast(t, ahead, "walk "+strconv.Itoa(a)+" "+strconv.Itoa(a), "ok "+strconv.Itoa(a))
			}
		}
	}
}

// A walk ends where it shall, at its beginning or on the way without a route, or it goes round.
func TestPromise17WalksOfEachCode(t *testing.T) {
	checkLast(t, []string{"ticks 45"}, "walk 1 3", "ok 1 2 3")
	checkLast(t, []string{"ticks 45", "cost 1 2 0", "cost 2 1 0", "ticks 64"}, "walk 1 2", "ok 1 4 3 2")
	checkLast(t, nil, "walk 1 3", "none 1")
	checkLast(t, nil, "walk 4 2", "none 4")
	checkLast(t, []string{"ticks 45", "cost 4 1 0", "cost 1 4 0", "lossy 5 0110", "lossy 4 1"}, "walk 4 1", "none 4 3")
	checkLast(t, []string{"ticks 45", "cost 1 2 0", "cost 1 3 0", "cost 1 4 0", "ticks 64"}, "walk 3 1", "none 3")
	checkLast(t, []string{"ticks 49", "lossy 5 01"}, "walk 2 4", "loop 2 1 2 1 2")
}

// Errors come of packets that are none; in a plain net there are none, however many frames are lost.
func TestPromise17LinesMakeNoErrors(t *testing.T) {
	for _, ahead := range aheads() {
		for a := 1; a <= 4; a++ {
			_, said, _ := impl.RunLines(append(slices.Clone(ahead), "lossy 30 011", "show "+strconv.Itoa(a)))
			if said[len(said)-1] != "errors 0" {
				t.Errorf("behind %s: %q", briefLines(ahead), said)
			}
		}
	}
}

func TestPromise17Converged(t *testing.T) {
	for _, c := range []struct {
		ahead []string
		want  string
	}{
		{nil, "no"}, {[]string{"ticks 1"}, "no"}, {[]string{"ticks 45"}, "yes"}, {[]string{"ticks 200"}, "yes"}, {[]string{"ticks 45", "cost 1 2 7"}, "no"},
		{[]string{"ticks 45", "cost 2 3 7", "ticks 64"}, "yes"}, {[]string{"ticks 45", "lossy 20 1"}, "no"}, {[]string{"ticks 45", "restart 1 0"}, "no"},
		{[]string{"cost 1 2 0", "cost 2 3 0", "cost 3 4 0", "cost 4 1 0", "cost 1 3 0"}, "yes"},
	} {
		checkLast(t, c.ahead, "converged", c.want)
		checkLast(t, c.ahead, "  converged   ", c.want)
	}
}

// An act's text says its code, and the net behind it is that of the act.
func TestPromise17ActsTexts(t *testing.T) {
	ahead := []string{"ticks 20"}
	for _, line := range []string{
		"ticks 0", "ticks 1", "ticks 200", "lossy 0 1", "lossy 5 1", "lossy 200 0110", "cost 1 2 0", "cost 2 4 256", "cost 4 3 77", "restart 1 0", "restart 4 65535",
		"lossy 4 " + strings.Repeat("01", 31), "lossy 2 " + strings.Repeat("0", 5000) + "1",
	} {
		checkLast(t, nil, line, "ok")
		checkLast(t, ahead, line, "ok")
	}
	for _, line := range []string{
		"ticks -1", "ticks 201", "ticks 999999999999999999", "ticks -999999999999999999", "lossy -1 0", "lossy 201 1", "lossy 201 " + strings.Repeat("1", 61), "cost 1 1 1", "cost 0 1 1", "cost 1 5 1", "cost -1 2 3",
		"cost 1 2 -1", "cost 1 2 257", "cost 9 9 999999999999999999", "restart 0 1", "restart 5 1", "restart -1 1", "restart 1 -1", "restart 1 65536", "restart 999999999999999999 1",
	} {
		checkLast(t, nil, line, "error range")
		checkLast(t, ahead, line, "error range")
		checkSays(t, []string{line}, wantPlain(), []string{"error range"})
	}
	for _, line := range []string{
		"ticks", "ticks x", "ticks 1 2", "ticks 1000000000000000000", "lossy 3", "lossy 3 012", "lossy 3 2", "lossy x 01", "lossy 3 01 1", "cost 1 2", "cost 1 2 3 4", "restart 1", "restart 1 2 3",
		"inject 1 2", "inject 1 2 zz", "inject", "ticks -0", "ticks 007", "restart 1 01", "cost 1 2 +3",
	} {
		checkLast(t, nil, line, "error form")
		checkLast(t, ahead, line, "error form")
		checkSays(t, []string{line}, wantPlain(), []string{"error form"})
	}
}

// A run of acts' texts is the run of the acts.
func TestPromise17ActsTextsAreTheActs(t *testing.T) {
	d := &draws{170}
	for range 30 {
		var lines, want []string
		var acts []impl.Act
		for range d.next(20) {
			a := d.act(4)
			text, code := impl.ActText(a)
			if code == impl.OK {
				lines, acts = append(lines, text), append(acts, a)
			}
		}
		n, codes, _ := impl.ActsRun(impl.PlainNet(), acts)
		for _, code := range codes {
			if code == impl.OK {
				want = append(want, "ok")
			} else {
				want = append(want, "error "+impl.CodeWord(code))
			}
		}
		checkSays(t, lines, n, want)
	}
}

// Each line sees what the lines ahead of it have made of the net.
func TestPromise17LinesOneByOne(t *testing.T) {
	n := wantPlain()
	var said []string
	for i, line := range manyLines() {
		var more []string
		n, more = wantLine(n, line)
		said = append(said, more...)
		checkSays(t, manyLines()[:i+1], n, said)
	}
	if n.Time != 59 {
		t.Error("many lines:", briefNet(n))
	}
}

func TestPromise17DrawnRuns(t *testing.T) {
	d := &draws{171}
	for range 120 {
		checkRunLines(t, d.lines(d.next(31)))
	}
	for range 6 {
		checkRunLines(t, d.lines(maxLines))
	}
}

// line is drawn of each kind, now and then with a fault or of any bytes.
func (d *draws) line() string {
	router := func() string { return strconv.Itoa(d.next(23)%5 + d.next(20)/19) }
	line := ""
	switch d.next(14) {
	case 0:
		line = "show " + router()
	case 1:
		line = "relays " + router()
	case 2, 3:
		line = "walk " + router() + " " + router()
	case 4:
		line = "converged"
	case 5:
		return []string{"", " ", "#", "# x", " #1", "   #", "##", "#ticks 9"}[d.next(8)]
	case 6:
		return d.text(d.next(12))
	case 7, 8, 9:
		line = "ticks " + strconv.Itoa(d.next(30)-d.next(2))
	case 10, 11:
		line = "cost " + router() + " " + router() + " " + strconv.Itoa(d.next(2)*d.next(258))
	case 12:
		line = "lossy " + strconv.Itoa(d.next(12)) + " " + []string{"1", "01", "0", "0110", "110", "00010"}[d.next(6)]
	case 13:
		line = "restart " + router() + " " + strconv.Itoa([]int{d.next(65537), d.next(60)}[d.next(2)])
	}
	if d.next(9) == 0 {
		line = strings.ReplaceAll(line, " ", strings.Repeat(" ", 1+d.next(3))) + " "
	}
	if d.next(20) == 0 {
		line += []string{" 1", "x", " #", "\t", "\n", " x"}[d.next(6)]
	}
	return line
}

func (d *draws) lines(count int) []string {
	var list []string
	for range count {
		list = append(list, d.line())
	}
	return list
}
