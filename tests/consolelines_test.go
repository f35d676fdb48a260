package tests

import (
	"slices"
	"strconv"
	"strings"
	"testing"

	"loop.example/g00419/impl"
)

// rightLines has one of each kind of lines that say something on a plain net at its beginning.
var rightLines = []string{"show 1", "relays 4", "walk 1 3", "walk 2 2", "converged", "ticks 5", "lossy 3 0110", "cost 1 2 9", "restart 2 100"}

// checkNone asks of a line, at the beginning and when the net has run, that it is none, and that the net stays.
func checkNone(t *testing.T, line string) {
	t.Helper()
	checkSays(t, []string{line}, wantPlain(), []string{"error form"})
	checkRunLines(t, []string{"ticks 9", line, "show 1"}, "ok", "error form",
		"2 sym 1 1", "3 sym 9 9", "4 sym 3 3", "2 by 2 cost 1 hops 1", "3 by 2 cost 3 hops 2", "4 by 4 cost 3 hops 1", "errors 0")
}

// checkNothing asks of a line that nothing is said to it, and that the net stays.
func checkNothing(t *testing.T, line string) {
	t.Helper()
	checkSays(t, []string{line}, wantPlain(), nil)
	checkSays(t, []string{line, "walk 2 2", line, line}, wantPlain(), []string{"ok 2"})
}

// checkLike asks that a line says and does what another one does.
func checkLike(t *testing.T, line, other string) {
	t.Helper()
	want, said := wantRun([]string{"ticks 9", other})
	checkSays(t, []string{"ticks 9", line}, want, said)
}

func TestPromise17LinesThatAreNone(t *testing.T) {
	for _, line := range []string{
		"go", "x", "0", "1", "1 2", "ok", "help", "quit", "show", "relays", "walk", "walk 1", "show 1 2", "show 1 1", "relays 1 2", "walk 1 2 3", "walk 1 2 #", "show 1 #", "converged now", "converged 1",
		"converged converged", "converged #", "converge", "Converged", "CONVERGED", "Show 1", "SHOW 1", "shows 1", "show1", "sho 1", "relay 1", "relays1", "relaying 1", "walks 1 2", "walk1 2", "walk 12",
		"1 show", "1 2 walk", "show show 1", "show relays 1", "walk walk 1", "show walk 1 2", "error form", "no", "yes", "ticks", "tick 1", "inject 1 2", "inject 1 2 zz", "errors 1", "errors", "none 1",
		"show a", "relays x", "walk x 1", "walk 1 x", "show 1,", "show 1;", "walk 1,2", "walk 1-2", "show -", "show +1", "show 01", "show 1.0", "walk 01 2", "walk 1 02", "show -1", "show 0", "show 5", "relays 0",
		"relays 5", "walk 0 1", "walk 1 0", "walk 5 1", "walk 1 5", "walk 0 0", "walk 5 5", "walk 9 9", "walk -1 -1", "show -0", "show 1e0", "x#", "go # away", "show #1", "ticks# 5", "ticks 5 # five", "ticks 5#", "t#",
		"show\x001", "\x00", "\x00show 1", "show 1\x00", "\xff", "\xffshow 1", "é", "show １", "show ١",
	} {
		checkNone(t, line)
	}
}

// Each word of each line is needed, and none more.
func TestPromise17WordsTooFewAndTooMany(t *testing.T) {
	for _, right := range rightLines {
		words := strings.Split(right, " ")
		for i := range words {
			if line := strings.Join(slices.Delete(slices.Clone(words), i, i+1), " "); line != "" {
				checkNone(t, line)
			} else {
				checkNothing(t, line)
			}
		}
		for i := range len(words) + 1 {
			for _, more := range []string{"1", "0", "01", "x", "-1", words[0], "+"} {
				checkNone(t, strings.Join(slices.Insert(slices.Clone(words), i, more), " "))
			}
		}
		checkNone(t, strings.Join(append(words, "#"), " "))
		checkNone(t, strings.Join(append(words, "# why"), " "))
		checkNothing(t, strings.Join(slices.Insert(words, 0, "#"), " "))
	}
}

func TestPromise17WordsThatAreNoNumbers(t *testing.T) {
	for _, word := range notNumbers() {
		for _, line := range []string{
			"show " + word, "relays " + word, "walk " + word + " 1", "walk 1 " + word, "walk " + word + " " + word, "ticks " + word, "lossy " + word + " 01", "cost " + word + " 2 9", "cost 1 " + word + " 9", "cost 1 2 " + word,
			"restart " + word + " 100", "restart 2 " + word,
		} {
			checkSays(t, []string{line}, wantPlain(), []string{"error form"})
		}
	}
	checkNone(t, "show 0x1")
	checkNone(t, "walk 1 1_0")
}

// Numbers that are no router of the net: no line but an act's text has another word for these than form.
func TestPromise17RoutersThatAreNone(t *testing.T) {
	for _, a := range []string{
		"0", "5", "-1", "-4", "6", "7", "8", "9", "10", "100", "256", "257", "65537", "4294967297", "-4294967295", "123456789012345678", "999999999999999999", "-999999999999999999", "100000000000000001",
		"1000000000000000000", "1000000000000000001", "-1000000000000000001", "9223372036854775807", "-9223372036854775808", "18446744073709551617",
	} {
		for _, line := range []string{"show " + a, "relays " + a, "walk " + a + " 1", "walk 4 " + a, "walk " + a + " " + a} {
			checkNone(t, line)
		}
		word := "error range"
		if len(strings.TrimPrefix(a, "-")) > 18 {
			word = "error form"
		}
		for _, line := range []string{"restart " + a + " 1", "cost " + a + " 2 3", "cost 2 " + a + " 3"} {
			checkSays(t, []string{line}, wantPlain(), []string{word})
		}
	}
}

func TestPromise17LinesThatSayNothing(t *testing.T) {
	for _, line := range []string{
		"", " ", "  ", strings.Repeat(" ", 100), "#", "##", "# ", " #", "   #", "#x", "# x", " # x", "#show 1", "# show 1", "  #ticks 5", "# # #", "#\t", "#\xff\x00", "#\n", "# \nshow 1", "#show 1\n", "  ##ticks 5  ", "#5",
	} {
		checkNothing(t, line)
	}
}

// Lines that say nothing, put in wherever there is a place, change neither what is said nor the net.
func TestPromise17LinesThatSayNothingChangeNothing(t *testing.T) {
	d := &draws{172}
	silent := []string{"", "  ", "#", "# ticks 9", "  #restart 1 5", "#\xff"}
	for range 40 {
		lines := d.lines(d.next(20))
		n, said, code := impl.RunLines(lines)
		checkNet(t, "RunLines of "+briefLines(lines), n, code, n, impl.OK)
		more := slices.Clone(lines)
		for range 1 + d.next(maxLines-len(lines)) {
			more = slices.Insert(more, d.next(len(more)+1), silent[d.next(len(silent))])
		}
		checkSays(t, more, n, said)
	}
}

func TestPromise17BlanksAheadBehindAndBetween(t *testing.T) {
	for _, right := range append([]string{"show 9", "go 1 2", "ticks 201", "#a b"}, rightLines...) {
		words := strings.Split(right, " ")
		for _, between := range []int{1, 2, 3, 70} {
			for _, ahead := range []int{0, 1, 2, 70} {
				for _, behind := range []int{0, 1, 2, 70} {
					checkLike(t, strings.Repeat(" ", ahead)+strings.Join(words, strings.Repeat(" ", between))+strings.Repeat(" ", behind), right)
				}
			}
		}
	}
}

// No other byte is a blank: with one in a blank's place, ahead or behind, a line is another one.
func TestPromise17OtherBytesThanBlanks(t *testing.T) {
	for c := range 256 {
		b := string([]byte{byte(c)})
		if b == " " {
			continue
		}
		for _, right := range rightLines {
			words := strings.Split(right, " ")
			if c == '#' {
				checkNothing(t, b+right)
				checkNothing(t, " "+b+" "+right)
			} else {
				checkSays(t, []string{b + right}, wantPlain(), []string{"error form"})
				checkSays(t, []string{b + " " + right}, wantPlain(), []string{"error form"})
			}
			if len(words) > 1 {
				checkSays(t, []string{strings.Join(words, b)}, wantPlain(), []string{"error form"})
				checkSays(t, []string{words[0] + " " + b + " " + strings.Join(words[1:], " ")}, wantPlain(), []string{"error form"})
			}
			checkRunLines(t, []string{right + b})
			checkSays(t, []string{right + " " + b}, wantPlain(), []string{"error form"})
		}
	}
	for _, other := range []string{"\t", "\n", "\r", "\v", "\f", "\u0085", "\u00a0", "\u2003", "\u2028", "\u3000", "\ufeff", "\xa0", "\x85", "\xc2", "\t ", " \t", " \r\n", " \u00a0 "} {
		for _, right := range rightLines {
			checkNone(t, other+right)
			checkNone(t, right+other)
			if words := strings.Split(right, " "); len(words) > 1 {
				checkNone(t, strings.Join(words, other))
			}
		}
		checkNone(t, other)
		checkNone(t, other+"#")
		checkNothing(t, "#"+other)
	}
}

// A line's end within a line that is handed in is a byte of a word.
func TestPromise17ALineHasNoLinesInIt(t *testing.T) {
	checkNone(t, "converged\n")
	checkNone(t, "ticks 5\nticks 6")
	checkNone(t, "\n")
	checkNone(t, "show 1 \n")
	checkNothing(t, "#\nticks 5\n")
}

func TestPromise17LinesOfDrawnBytes(t *testing.T) {
	d := &draws{173}
	bytes := "show relaywktcnvgd 0123456789-#  \t\n\xff"
	for range 3000 {
		line := ""
		for range d.next(14) {
			i := d.next(len(bytes))
			line += bytes[i : i+1]
		}
		checkRunLines(t, []string{line})
		checkRunLines(t, []string{[]string{"show ", "walk ", "relays ", "converged", "ticks ", "cost 1 "}[d.next(6)] + line})
	}
}

// Lines with one byte changed, one more, or cut.
func TestPromise17LinesOfOtherBytes(t *testing.T) {
	for _, right := range rightLines {
		for i := range len(right) {
			for c := range 128 {
				b := []byte(right)
				b[i] = byte(c)
				checkRunLines(t, []string{string(b)})
			}
			for _, c := range []string{" ", "0", "1", "#", "-", "\t"} {
				checkRunLines(t, []string{right[:i] + c + right[i:]})
			}
			checkRunLines(t, []string{right[:i]})
			checkRunLines(t, []string{right[i:]})
		}
	}
}

// None, one, the most, and one more; above MaxList a list is too long ahead of that.
func TestPromise17HowManyLinesARunTakes(t *testing.T) {
	for _, line := range []string{"", "  ", "#", "go", "converged", "walk 2 2", "ticks 1", "show 1", "cost 1 2 9", "restart 1 7"} {
		for _, count := range []int{1, 2, maxLines - 1, maxLines} {
			checkRunLines(t, slices.Repeat([]string{line}, count))
		}
		for _, count := range []int{maxLines + 1, maxLines + 2, 100, impl.MaxList - 1, impl.MaxList} {
			checkNoLines(t, slices.Repeat([]string{line}, count), impl.ErrMany)
		}
		for _, count := range []int{impl.MaxList + 1, 2 * impl.MaxList} {
			checkNoLines(t, slices.Repeat([]string{line}, count), impl.ErrLong)
		}
	}
	lines := append(manyLines(), manyLines()...)
	checkRunLines(t, lines[:maxLines])
	checkNoLines(t, append(lines[:maxLines], "#"), impl.ErrMany)
	// As many ticks as there can be.
	n, said, code := impl.RunLines(slices.Repeat([]string{"ticks 200"}, maxLines))
	if n.Time != 12000 || len(said) != maxLines || code != impl.OK {
		t.Error("sixty times 200 ticks:", n.Time, len(said), code)
	}
	checkTrue(t, "sixty times 200 ticks", n)
}

// checkNoLines asks for this code, and for neither a net nor anything that is said.
func checkNoLines(t *testing.T, lines []string, want int) {
	t.Helper()
	mustNotPanic(t, "RunLines of "+briefLines(lines), func() {
		if n, said, code := impl.RunLines(lines); !sameNet(n, impl.Net{}) || len(said) != 0 || code != want {
			t.Errorf("RunLines of %s = %s, %s, %d, not code %d", briefLines(lines), briefNet(n), brief(said), code, want)
		}
	})
}

// A line in a list is no argument of its own: nothing bounds its bytes.
func TestPromise17LinesOfManyBytes(t *testing.T) {
	for _, size := range []int{impl.MaxText - 1, impl.MaxText, impl.MaxText + 1, 3 * impl.MaxText} {
		blanks := strings.Repeat(" ", size)
		for _, right := range append([]string{"show 9", "go 1", "ticks 201"}, rightLines...) {
			first, rest, _ := strings.Cut(right, " ")
			checkLike(t, right+blanks[len(right):], right)
			checkLike(t, blanks[len(right):]+right, right)
			checkLike(t, first+" "+blanks[len(right):]+rest, right)
		}
		checkNothing(t, blanks)
		checkNothing(t, "#"+strings.Repeat("x", size-1))
		checkNone(t, strings.Repeat("x", size))
		checkNone(t, strings.Repeat("x ", size/2))
		checkNone(t, "show "+strings.Repeat("1", size-5))
		checkNone(t, "show "+strings.Repeat("0", size-6)+"1")
		checkNone(t, "lossy 3 "+strings.Repeat("0", size-9)+"2")
		checkLike(t, "lossy 3 "+strings.Repeat("0", size-8), "ticks 3")
		checkLike(t, "lossy 3 "+strings.Repeat("1", size-8), "lossy 3 1")
	}
}

// What is said to the first lines is the same whatever lines come behind, or none.
func TestPromise17WhatIsSaidDoesNotHangOnLaterLines(t *testing.T) {
	d := &draws{174}
	for range 25 {
		lines := d.lines(d.next(31))
		first, said, _ := impl.RunLines(lines)
		for _, later := range [][]string{d.lines(d.next(30)), {"go"}, {""}, {"restart 1 5", "cost 1 2 0"}, {"\xff", "#", "show 1"}, slices.Repeat([]string{"lossy 3 1"}, 29), manyLines()[:29]} {
			whole := append(slices.Clone(lines), later...)
			_, more, code := impl.RunLines(whole)
			if code != impl.OK || len(more) < len(said) || !slices.Equal(more[:len(said)], said) {
				t.Fatalf("%s say %q, code %d; the first %d of them alone say %q", briefLines(whole), more, code, len(lines), said)
			}
		}
		for i := range lines {
			n, less, code := impl.RunLines(lines[:i])
			if code != impl.OK || len(less) > len(said) || !slices.Equal(said[:len(less)], less) || n.Time > first.Time {
				t.Fatalf("%s say %q; the first %d of them say %q, code %d", briefLines(lines), said, i, less, code)
			}
		}
	}
}

// Lines that ask leave the net as it is, wherever they stand.
func TestPromise17LinesThatAskChangeNothing(t *testing.T) {
	d := &draws{175}
	for range 25 {
		var acts, all []string
		for range d.next(20) {
			act := "ticks " + strconv.Itoa(d.next(12))
			if d.next(2) == 0 {
				act = "cost " + strconv.Itoa(1+d.next(4)) + " " + strconv.Itoa(1+d.next(4)) + " " + strconv.Itoa(d.next(9))
			}
			acts = append(acts, act)
			all = append(all, act, []string{"show 1", "show 4", "relays 2", "walk 1 3", "walk 3 2", "converged", "go", "show 7", "walk 1", "ticks 201", "cost 1 1 1"}[d.next(11)])
		}
		n, said, _ := impl.RunLines(acts)
		got, more, code := impl.RunLines(all)
		checkNet(t, "RunLines of "+briefLines(all), got, code, n, impl.OK)
		if len(more) < len(said) {
			t.Errorf("%s say %q", briefLines(all), more)
		}
	}
}
