package tests

import (
	"fmt"
	"slices"
	"strings"
	"testing"

	"loop.example/g00419/impl"
)

// A consoleAnswer is all that a call of the console may answer.
type consoleAnswer struct {
	netAnswer
	said []string
	text string
}

// lists has what was said ahead of the net's lists.
func (a consoleAnswer) lists() []string {
	return append([]string{fmt.Sprintf("%q", a.said)}, a.netAnswer.lists()...)
}

func (a consoleAnswer) numbers() string {
	return fmt.Sprint(a.netAnswer.numbers(), a.text)
}

func (a consoleAnswer) wipe(i int) {
	if i == 0 {
		clear(a.said[:cap(a.said)])
		return
	}
	a.netAnswer.wipe(i - 1)
}

type consoleCall struct {
	name string
	call func(lines []string) consoleAnswer
}

// consoleCalls are given some lines, and run all of them, some, none, or too many.
var consoleCalls = []consoleCall{
	{"RunLines", func(lines []string) consoleAnswer { return linesAnswer(impl.RunLines(lines)) }},
	{"RunLines of none", func(lines []string) consoleAnswer { return linesAnswer(impl.RunLines(lines[:0])) }},
	{"RunLines of the first", func(lines []string) consoleAnswer { return linesAnswer(impl.RunLines(lines[:1])) }},
	{"RunLines of too many", func(lines []string) consoleAnswer {
		return linesAnswer(impl.RunLines(slices.Repeat(lines, maxLines+1)))
	}},
	{"PlainNet", func(lines []string) consoleAnswer {
		return consoleAnswer{netAnswer: netAnswerOf(impl.PlainNet(), impl.OK)}
	}},
	{"Console", func(lines []string) (a consoleAnswer) {
		a.text, a.code = impl.Console(ended(lines))
		return a
	}},
	{"Console of too many", func(lines []string) (a consoleAnswer) {
		a.text, a.code = impl.Console(strings.Repeat(ended(lines), maxLines+1))
		return a
	}},
}

func linesAnswer(n impl.Net, said []string, code int) consoleAnswer {
	return consoleAnswer{netAnswer: netAnswerOf(n, code), said: said}
}

// memoryLines are runs that say nothing, say much, change the net or leave it, and end with frames in the air.
func memoryLines() [][]string {
	return [][]string{
		{""}, {"#"}, {"go"}, {"converged"}, {"show 1"}, {"walk 1 2"}, {"relays 3"}, {"ticks 0"}, {"ticks 201"}, {"cost 1 2 9"}, {"cost 1 1 9"}, {"restart 1 5"}, {"lossy 0 1"}, {"ticks 3"}, {"ticks 43"},
		{"ticks 40", "show 2", "relays 1", "walk 1 3", "converged", "lossy 3 01", "restart 2 9", "cost 3 4 0", "show 4", "ticks 1"}, manyLines(),
	}
}

// guardedLines stand in the middle of a greater list.
type guardedLines struct {
	lines []string
	room  []string
}

func guardLines(lines []string) guardedLines {
	room := slices.Repeat([]string{"ticks 7"}, netMargin+len(lines)+netMargin)
	copy(room[netMargin:], lines)
	return guardedLines{lines: room[netMargin : netMargin+len(lines)], room: room}
}

func (g guardedLines) kept() guardedLines { return guardedLines{room: slices.Clone(g.room)} }

func (g guardedLines) isAs(k guardedLines) bool { return slices.Equal(g.room, k.room) }

func (g guardedLines) wipe() { clear(g.room) }

func (g guardedLines) restore(k guardedLines) { copy(g.room, k.room) }

func TestPromise1LinesStayAsTheyWere(t *testing.T) {
	for _, lines := range memoryLines() {
		g := guardLines(lines)
		before := g.kept()
		for _, c := range consoleCalls {
			c.call(g.lines)
			if !g.isAs(before) {
				t.Fatalf("%s wrote into its lines, or around them: %s", c.name, briefLines(lines))
			}
		}
	}
}

func TestPromise1WhatLinesAnswerIsNewMemory(t *testing.T) {
	for _, lines := range memoryLines() {
		for _, c := range consoleCalls {
			g := guardLines(lines)
			checkNewMemory(t, c.name+" of "+briefLines(lines), g, func() answer { return c.call(g.lines) })
			checkSharesNone(t, c.name+" of "+briefLines(lines), func() answer { return c.call(lines) })
		}
	}
}

// A plain net that is written into is no other one's net, nor a console's.
func TestPromise1PlainNetsAreEachANetOfItsOwn(t *testing.T) {
	a, b := impl.PlainNet(), impl.PlainNet()
	clear(a.Costs[:cap(a.Costs)])
	clear(a.Routers[:cap(a.Routers)])
	if c := impl.PlainNet(); !sameNet(b, wantPlain()) || !sameNet(c, wantPlain()) {
		t.Errorf("behind a net that was wiped: %s, %s", briefNet(b), briefNet(c))
	}
	checkRunLines(t, manyLines())
}

// What was called ahead, right or wrong, changes no answer.
func TestPromise1LinesAreAlikeAtEachCall(t *testing.T) {
	runs := memoryLines()
	var first []string
	for _, lines := range runs {
		for _, c := range consoleCalls {
			a := c.call(lines)
			first = append(first, fmt.Sprint(a.lists(), a.numbers()))
		}
	}
	for i := len(runs) - 1; i >= 0; i-- {
		for j := len(consoleCalls) - 1; j >= 0; j-- {
			impl.RunLines([]string{"ticks 9", "go", "restart 2 9", "\xff", "show 77"})
			impl.RunLines(make([]string, impl.MaxList+1))
			impl.Console(strings.Repeat("\n", impl.MaxText+1))
			impl.NetTick(impl.PlainNet(), []int{1})
			a := consoleCalls[j].call(slices.Clone(runs[i]))
			if got := fmt.Sprint(a.lists(), a.numbers()); got != first[i*len(consoleCalls)+j] {
				t.Errorf("%s of %s: %.300s, first %.300s", consoleCalls[j].name, briefLines(runs[i]), got, first[i*len(consoleCalls)+j])
			}
		}
	}
}

func TestPromise1LinesAtOnceAnswerAlike(t *testing.T) {
	lines := manyLines()
	want, said := wantRun(lines)
	checkAtOnce(t, 20, func() bool {
		n, more, _ := impl.RunLines(lines)
		text, _ := impl.Console(ended(lines))
		return sameNet(n, want) && slices.Equal(more, said) && text == ended(said) && sameNet(impl.PlainNet(), wantPlain())
	})
}

func TestPromise1LinesLeaveNothingRunning(t *testing.T) {
	checkLeavesNothingRunning(t, func() {
		for _, lines := range memoryLines() {
			for _, c := range consoleCalls {
				c.call(lines)
			}
		}
	})
}

// Whatever bytes come, in lines or as a text, the calls end and answer with a right net.
func TestPromise1AnyBytesAreAnswered(t *testing.T) {
	d := &draws{178}
	for range 400 {
		var lines []string
		for range d.next(12) {
			lines = append(lines, d.text(d.next(40)))
		}
		mustNotPanic(t, "RunLines of "+briefLines(lines), func() {
			if n, _, code := impl.RunLines(lines); code != impl.OK || !impl.NetOK(n) {
				t.Errorf("RunLines of %s: %s, code %d", briefLines(lines), briefNet(n), code)
			}
		})
		text := d.text(d.next(3000))
		mustNotPanic(t, "Console of "+briefText(text), func() {
			if _, code := impl.Console(text); code != impl.OK {
				t.Errorf("Console of %d bytes: code %d", len(text), code)
			}
		})
	}
}
