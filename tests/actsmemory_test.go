package tests

import (
	"fmt"
	"slices"
	"testing"

	"loop.example/g00419/impl"
)

// An actsAnswer is all that a call on acts may answer.
type actsAnswer struct {
	netAnswer
	codes []int
	act   impl.Act
	text  string
}

// lists has the codes and the signs ahead of the net's lists.
func (a actsAnswer) lists() []string {
	return append([]string{fmt.Sprint(a.codes), fmt.Sprint(a.act.Lose)}, a.netAnswer.lists()...)
}

func (a actsAnswer) numbers() string {
	return fmt.Sprint(a.netAnswer.numbers(), a.act.Kind, a.act.A, a.act.B, a.act.N, a.act.Bytes, a.text)
}

func (a actsAnswer) wipe(i int) {
	switch i {
	case 0:
		clear(a.codes[:cap(a.codes)])
	case 1:
		clear(a.act.Lose[:cap(a.act.Lose)])
	default:
		a.netAnswer.wipe(i - 2)
	}
}

func runAnswer(n impl.Net, codes []int, code int) actsAnswer {
	return actsAnswer{netAnswer: netAnswerOf(n, code), codes: codes}
}

type actsCall struct {
	name string
	call func(n impl.Net, acts []impl.Act) actsAnswer
}

// actsCalls are given some acts, and do all of them, some, none, or too many.
var actsCalls = []actsCall{
	{"ActsRun", func(n impl.Net, acts []impl.Act) actsAnswer { return runAnswer(impl.ActsRun(n, acts)) }},
	{"ActsRun of none", func(n impl.Net, acts []impl.Act) actsAnswer { return runAnswer(impl.ActsRun(n, acts[:0])) }},
	{"ActsRun of the first", func(n impl.Net, acts []impl.Act) actsAnswer { return runAnswer(impl.ActsRun(n, acts[:1])) }},
	{"ActsRun of too many", func(n impl.Net, acts []impl.Act) actsAnswer {
		return runAnswer(impl.ActsRun(n, slices.Repeat(acts, maxActs)))
	}},
	{"ReadAct", func(n impl.Net, acts []impl.Act) (a actsAnswer) {
		a.act, a.code = impl.ReadAct(" lossy 7  01101")
		return a
	}},
	{"ReadAct of none", func(n impl.Net, acts []impl.Act) (a actsAnswer) {
		a.act, a.code = impl.ReadAct("lossy 7 012")
		return a
	}},
}

// doCalls have each act of some by itself, done and told.
func doCalls(count int) []actsCall {
	var list []actsCall
	for i := range count {
		list = append(list, actsCall{fmt.Sprint("ActDo of act ", i), func(n impl.Net, acts []impl.Act) actsAnswer {
			x, code := impl.ActDo(n, acts[i])
			return actsAnswer{netAnswer: netAnswerOf(x, code)}
		}}, actsCall{fmt.Sprint("ActText of act ", i), func(n impl.Net, acts []impl.Act) (a actsAnswer) {
			a.text, a.code = impl.ActText(acts[i])
			return a
		}})
	}
	return list
}

// memoryActs are done, some of them without a change, and answered with codes.
func memoryActs() []impl.Act {
	return []impl.Act{
		ticksAct(0), lossyAct(0, 1), ticksAct(1), lossyAct(2, 0, 1, 1), lossyAct(1), costAct(1, 2, 77), costAct(2, 1, 0), restartAct(1, 500), injectAct(1, 2, "zz"), {Kind: 6, Lose: []int{1, 1}},
		ticksAct(201), lossyAct(1, 0, 2), lossyAct(3, signsOf(61)...), costAct(1, 1, 7), restartAct(7, 500), injectAct(2, 2, "zz"), lossyAct(1, make([]int, impl.MaxList+1)...),
	}
}

// guardedActs stand in the middle of a greater list, each with its signs in the middle of a greater one, beside a net
// that is guarded, too.
type guardedActs struct {
	guardedNet
	acts  []impl.Act
	room  []impl.Act
	signs [][]int
}

func guardActs(n impl.Net, acts []impl.Act) guardedActs {
	g := guardedActs{guardedNet: guardNet(n, nil, "")}
	g.room = make([]impl.Act, netMargin+len(acts)+netMargin)
	for i := range g.room {
		g.room[i] = impl.Act{Kind: -7, A: -8, B: -9, N: -10, Bytes: "room"}
	}
	for i, a := range acts {
		lose, signs := guardedRelays(a.Lose)
		a.Lose = lose
		g.signs = append(g.signs, signs)
		g.room[netMargin+i] = a
	}
	g.acts = g.room[netMargin : netMargin+len(acts)]
	return g
}

func (g guardedActs) kept() guardedActs {
	k := guardedActs{guardedNet: g.guardedNet.kept(), room: slices.Clone(g.room)}
	for _, signs := range g.signs {
		k.signs = append(k.signs, slices.Clone(signs))
	}
	return k
}

func (g guardedActs) isAs(k guardedActs) bool {
	return g.guardedNet.isAs(k.guardedNet) && slices.EqualFunc(g.room, k.room, sameAct) && slices.EqualFunc(g.signs, k.signs, slices.Equal)
}

func (g guardedActs) wipe() {
	g.guardedNet.wipe()
	clear(g.room)
	for _, signs := range g.signs {
		clear(signs)
	}
}

func (g guardedActs) restore(k guardedActs) {
	g.guardedNet.restore(k.guardedNet)
	copy(g.room, k.room)
	for i, signs := range g.signs {
		copy(signs, k.signs[i])
	}
}

func TestPromise1ActsStayAsTheyWere(t *testing.T) {
	acts := memoryActs()
	for _, given := range memoryNets() {
		g := guardActs(given, acts)
		before := g.kept()
		for _, c := range append(doCalls(len(acts)), actsCalls...) {
			c.call(g.n, g.acts)
			if !g.isAs(before) {
				t.Fatalf("%s wrote into its net or its acts, or around them: %s", c.name, briefNet(given))
			}
		}
	}
}

// What is answered as it was, with any code, is new memory, too.
func TestPromise1WhatActsAnswerIsNewMemory(t *testing.T) {
	acts := memoryActs()
	for _, given := range memoryNets() {
		for _, c := range append(doCalls(len(acts)), actsCalls...) {
			g := guardActs(given, acts)
			checkNewMemory(t, c.name+" on "+briefNet(given), g, func() answer { return c.call(g.n, g.acts) })
		}
		for i := range acts {
			g := guardActs(given, acts[i:i+1])
			checkNewMemory(t, "ActsRun of "+briefAct(acts[i])+" on "+briefNet(given), g, func() answer { return actsCalls[0].call(g.n, g.acts) })
		}
	}
}

func TestPromise1ListsThatActsAnswerShareNoMemory(t *testing.T) {
	acts := memoryActs()
	for _, given := range memoryNets() {
		for _, c := range append(doCalls(len(acts)), actsCalls...) {
			checkSharesNone(t, c.name+" on "+briefNet(given), func() answer { return c.call(given, acts) })
		}
	}
}

func TestPromise1ActsAreAlikeAtEachCall(t *testing.T) {
	d := &draws{163}
	wrongs := someWrongNets()
	for i := range 60 {
		n, wrong := d.busyNet(d.next(maxAir+1)), wrongs[i%len(wrongs)].n
		acts := []impl.Act{d.act(len(n.Routers)), d.act(len(n.Routers)), d.act(len(n.Routers))}
		for range 3 {
			for _, a := range acts {
				checkAct(t, "a busy one", n, a)
			}
			checkRun(t, "a busy one", n, acts)
			checkReadAct(t, "lossy 3 01", lossyAct(3, 0, 1))
			impl.ActDo(wrong, acts[0])
			impl.ActsRun(wrong, acts)
			impl.ActsRun(n, make([]impl.Act, maxActs+1))
			impl.ActDo(n, lossyAct(1, 2))
			impl.ReadAct("lossy 3 012")
			impl.ActText(lossyAct(1))
			impl.NetTick(n, []int{1})
		}
	}
}

func TestPromise1ActsAtOnceAnswerAlike(t *testing.T) {
	n, acts := fullPassing(60), memoryActs()
	want, wantCodes, _ := impl.ActsRun(n, acts)
	checkAtOnce(t, 20, func() bool {
		x, codes, _ := impl.ActsRun(n, acts)
		a, _ := impl.ReadAct("lossy 3 011")
		text, _ := impl.ActText(acts[3])
		return sameNet(x, want) && slices.Equal(codes, wantCodes) && sameAct(a, lossyAct(3, 0, 1, 1)) && text == "lossy 2 011"
	})
}

func TestPromise1ActsLeaveNothingRunning(t *testing.T) {
	acts := memoryActs()
	checkLeavesNothingRunning(t, func() {
		for _, given := range memoryNets() {
			for _, c := range append(doCalls(len(acts)), actsCalls...) {
				c.call(given, acts)
			}
		}
	})
}

// Lists that are empty and lists that are nil are the same act, and the same run.
func TestPromise1ActsOfEmptyListsAndOfNone(t *testing.T) {
	for _, c := range actNets() {
		for _, a := range []impl.Act{ticksAct(3), lossyAct(3), costAct(1, 2, 9), restartAct(1, 9), injectAct(1, 2, ""), {}} {
			empty := a
			a.Lose, empty.Lose = nil, []int{}
			x, xCode := impl.ActDo(c.n, a)
			y, yCode := impl.ActDo(c.n, empty)
			if !sameNet(x, y) || xCode != yCode {
				t.Errorf("%s on %s with an empty list: %s, %d, not %s, %d", briefAct(a), c.name, briefNet(y), yCode, briefNet(x), xCode)
			}
			xText, xCode := impl.ActText(a)
			yText, yCode := impl.ActText(empty)
			if xText != yText || xCode != yCode {
				t.Errorf("%s with an empty list: %q, %d, not %q, %d", briefAct(a), yText, yCode, xText, xCode)
			}
		}
	}
}
