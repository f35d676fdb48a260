package tests

import (
	"slices"
	"strings"
	"testing"

	"loop.example/g00419/impl"
)

// wantLines are a text's lines by chapter 17's words, byte by byte.
func wantLines(text string) []string {
	var lines []string
	line := ""
	for i := range len(text) {
		if text[i] == 10 {
			lines = append(lines, line)
			line = ""
		} else {
			line += text[i : i+1]
		}
	}
	if line != "" {
		lines = append(lines, line)
	}
	return lines
}

// ended has a byte 10 behind each line.
func ended(lines []string) string {
	var text strings.Builder
	for _, line := range lines {
		text.WriteString(line + "\n")
	}
	return text.String()
}

func briefText(text string) string {
	return briefLines(wantLines(text[:min(len(text), 2000)]))
}

// checkTold asks for this answer to a text, by hand.
func checkTold(t *testing.T, text, want string) {
	t.Helper()
	mustNotPanic(t, "Console of "+briefText(text), func() {
		if got, code := impl.Console(text); got != want || code != impl.OK {
			t.Fatalf("Console of %s tells\n%.900q, %d, not\n%.900q", briefText(text), got, code, want)
		}
	})
}

// checkConsole holds a text against the chapter's words, and against RunLines line by line.
func checkConsole(t *testing.T, text string) {
	t.Helper()
	lines := wantLines(text)
	_, said := wantRun(lines)
	checkTold(t, text, ended(said))
	_, same, code := impl.RunLines(lines)
	if !slices.Equal(same, said) || code != impl.OK {
		t.Fatalf("RunLines of %s says %q, %d, Console tells %q", briefLines(lines), same, code, said)
	}
}

func checkNoTelling(t *testing.T, text string, want int) {
	t.Helper()
	mustNotPanic(t, "Console of "+briefText(text), func() {
		if got, code := impl.Console(text); got != "" || code != want {
			t.Errorf("Console of %d bytes, %s = %.300q, %d, not code %d", len(text), briefText(text), got, code, want)
		}
	})
}

func TestPromise17TextsByHand(t *testing.T) {
	for text, want := range map[string]string{
		"":                                   "",
		"\n":                                 "",
		"\n\n\n":                             "",
		" ":                                  "",
		" \n ":                               "",
		"#":                                  "",
		"# x\n":                              "",
		"converged":                          "no\n",
		"converged\n":                        "no\n",
		"converged\n\n":                      "no\n",
		"\nconverged":                        "no\n",
		"converged\nconverged":               "no\nno\n",
		"converged\n \nconverged\n":          "no\nno\n",
		"walk 2 2":                           "ok 2\n",
		"walk 1 3\nwalk 3 1\n":               "none 1\nnone 3\n",
		"show 4\nrelays 4\n":                 "errors 0\nrelays\n",
		"ticks 45\nconverged\nwalk 1 3":      "ok\nyes\nok 1 2 3\n",
		"ticks 45\nrelays 1\nrelays 3\n#":    "ok\nrelays 3\nrelays\n",
		"ticks 201\ngo\n":                    "error range\nerror form\n",
		"converged\r\n":                      "error form\n",
		"converged\x00":                      "error form\n",
		"conv\nerged\n":                      "error form\nerror form\n",
		"ticks 45\n  show   2  \n":           "ok\n1 sym 1 1\n3 sym 2 2\n1 by 1 cost 1 hops 1\n3 by 3 cost 2 hops 1\n4 by 1 cost 4 hops 2\nerrors 0\n",
		"ticks\n45\n":                        "error form\nerror form\n",
		"\xff\n\xff":                         "error form\nerror form\n",
		"cost 1 2 9\ncost 1 2 257\nwalk 1 4": "ok\nerror range\nnone 1\n",
	} {
		checkTold(t, text, want)
		checkConsole(t, text)
	}
}

// What stands behind the last byte 10 is a line if it has a byte, and only then.
func TestPromise17TheLastLineOfAText(t *testing.T) {
	whole := ended(manyLines())
	checkConsole(t, whole)
	want, _ := impl.Console(whole)
	checkTold(t, strings.TrimSuffix(whole, "\n"), want)
	checkTold(t, whole+" ", want)
	checkTold(t, whole+"\n", want)
	checkTold(t, "\n"+whole, want)
	checkTold(t, whole+"x", want+"error form\n")
	checkTold(t, whole+"\nx", want+"error form\n")
	checkTold(t, whole+"walk 2 2", want+"ok 2\n")
	checkTold(t, whole+"walk 2 2\n", want+"ok 2\n")
	for i := range len(whole) {
		if i%7 == 0 || whole[i] == '\n' || whole[max(0, i-1)] == '\n' {
			checkConsole(t, whole[:i])
		}
	}
}

// Each text of few bytes of a line's end, a blank and others.
func TestPromise17TextsOfFewBytes(t *testing.T) {
	texts := []string{""}
	for range 4 {
		var longer []string
		for _, text := range texts {
			for _, c := range []string{"\n", " ", "#", "x", "\r"} {
				longer = append(longer, text+c)
			}
		}
		for _, text := range longer {
			checkConsole(t, text)
			checkConsole(t, "walk 2 2"+text+"converged")
		}
		texts = longer
	}
}

func TestPromise17HowManyLinesATextMayHave(t *testing.T) {
	for _, line := range []string{"", " ", "#", "go", "converged", "ticks 1", "walk 1 1"} {
		for _, count := range []int{1, 2, maxLines - 1, maxLines} {
			text := ended(slices.Repeat([]string{line}, count))
			checkConsole(t, text)
			checkConsole(t, strings.TrimSuffix(text, "\n"))
		}
		most := ended(slices.Repeat([]string{line}, maxLines))
		checkNoTelling(t, most+"\n", impl.ErrMany)
		checkNoTelling(t, most+" ", impl.ErrMany)
		checkNoTelling(t, most+"#", impl.ErrMany)
		checkNoTelling(t, most+"x", impl.ErrMany)
		// The lines of a text are no list that was handed in: many as they are, there are too many, not too long a list.
		for _, count := range []int{maxLines + 1, 100, impl.MaxList - 1, impl.MaxList, impl.MaxList + 1, 2 * impl.MaxList, impl.MaxText} {
			if text := strings.Repeat(line+"\n", count); len(text) <= impl.MaxText {
				checkNoTelling(t, text, impl.ErrMany)
			}
		}
	}
	checkNoTelling(t, strings.Repeat("\n", impl.MaxText), impl.ErrMany)
	checkNoTelling(t, strings.Repeat("x\n", impl.MaxText/2), impl.ErrMany)
}

// As long as a text may be, and one byte more: that is too long ahead of too many lines.
func TestPromise17HowLongATextMayBe(t *testing.T) {
	for _, c := range []struct{ first, fill, last, want string }{
		{"converged\n", " ", "", "no\n"}, {"", " ", "", ""}, {"", "#", "", ""}, {"", "x", "", "error form\n"}, {"", " ", "walk 2 2", "ok 2\n"}, {"", " ", "walk 2 2\n", "ok 2\n"}, {"walk 2", " ", "2", "ok 2\n"},
		{"lossy 1 ", "0", "", "ok\n"}, {"lossy 1 ", "1", "\nconverged", "ok\nno\n"}, {"lossy 1 ", "0", "2", "error form\n"}, {"show ", "1", "", "error form\n"}, {"# ", "\xff", "\nwalk 1 1\n", "ok 1\n"},
		{"converged", " ", "\nconverged", "no\nno\n"}, {"", "x ", "", "error form\n"}, {"", "\x00", "\n", "error form\n"},
	} {
		for _, size := range []int{impl.MaxText - 2, impl.MaxText} {
			room := size - len(c.first) - len(c.last)
			checkTold(t, c.first+strings.Repeat(c.fill, room)[:room]+c.last, c.want)
		}
		for _, size := range []int{impl.MaxText + 1, impl.MaxText + 2, 2 * impl.MaxText} {
			room := size - len(c.first) - len(c.last)
			checkNoTelling(t, c.first+strings.Repeat(c.fill, room)[:room]+c.last, impl.ErrLong)
		}
	}
	checkNoTelling(t, strings.Repeat("\n", impl.MaxText+1), impl.ErrLong)
	checkNoTelling(t, strings.Repeat("x\n", impl.MaxText), impl.ErrLong)
	checkNoTelling(t, ended(manyLines())+strings.Repeat(" ", impl.MaxText), impl.ErrLong)
}

// Console tells what RunLines says to the same lines.
func TestPromise17ConsoleTellsWhatRunLinesSays(t *testing.T) {
	d := &draws{176}
	for i := range 150 {
		var lines []string
		for _, line := range d.lines(d.next(maxLines + 1)) {
			lines = append(lines, strings.ReplaceAll(line, "\n", "\v"))
		}
		_, said, code := impl.RunLines(lines)
		if code != impl.OK {
			t.Fatalf("RunLines of %s: code %d", briefLines(lines), code)
		}
		checkTold(t, ended(lines), ended(said))
		if len(lines) > 0 {
			checkTold(t, strings.Join(lines, "\n"), ended(said))
		}
		if i%5 == 0 {
			checkConsole(t, ended(lines))
		}
	}
}

func TestPromise17DrawnTexts(t *testing.T) {
	d := &draws{177}
	pieces := []string{"\n", "\n", " ", "show 1", "ticks 9\n", "converged", "walk 1 3\n", "relays 2\n", "#", "x", "\r", "cost 1 2 0\n", "\t", "1", "\n\n", "go\n", "lossy 3 01\n", "\xff"}
	for range 300 {
		text := ""
		for range d.next(30) {
			text += pieces[d.next(len(pieces))]
		}
		checkConsole(t, text)
		if text = d.text(d.next(500)); strings.Count(text, "\n") < maxLines {
			checkConsole(t, text)
		}
	}
}

// What is told of the first lines is the same whatever lines come behind, as long as there are not too many.
func TestPromise17WhatIsToldDoesNotHangOnLaterLines(t *testing.T) {
	first := ended(manyLines()[:20])
	told, _ := impl.Console(first)
	for _, later := range []string{"", "\n", "go", "converged\n", "ticks 200\nshow 1\n", "restart 1 9\n\xff\n", strings.Repeat("lossy 9 1\n", 40), strings.Repeat("\n", 40), strings.Repeat("# x\n", 40), strings.Repeat("x", 60000)} {
		got, code := impl.Console(first + later)
		if code != impl.OK || !strings.HasPrefix(got, told) {
			t.Errorf("behind 20 lines %.80q: %.300q, code %d, not %q ahead", later, got, code, told)
		}
	}
}
