package tests

import (
	"slices"
	"testing"

	"loop.example/g00419/impl"
)

// linkCalls has the calls that answer links, with arguments for which they keep all, some or nothing of them.
var linkCalls = []struct {
	name string
	call func([]impl.Link, impl.Hello) ([]impl.Link, int)
}{
	{"HearHello of the first", func(l []impl.Link, h impl.Hello) ([]impl.Link, int) { return impl.HearHello(l, 3, 1, 5, 10, h) }},
	{"HearHello of one in the middle", func(l []impl.Link, h impl.Hello) ([]impl.Link, int) { return impl.HearHello(l, 2, 5, 5, 10, h) }},
	{"HearHello of the last", func(l []impl.Link, h impl.Hello) ([]impl.Link, int) { return impl.HearHello(l, 4, 8, 5, 10, h) }},
	{"HearHello of us", func(l []impl.Link, h impl.Hello) ([]impl.Link, int) { return impl.HearHello(l, 3, 3, 5, 10, h) }},
	{"HearHello with a wrong cost", func(l []impl.Link, h impl.Hello) ([]impl.Link, int) { return impl.HearHello(l, 2, 5, 0, 10, h) }},
	{"LinksExpire of none", func(l []impl.Link, h impl.Hello) ([]impl.Link, int) { return impl.LinksExpire(l, -1) }},
	{"LinksExpire of some", func(l []impl.Link, h impl.Hello) ([]impl.Link, int) { return impl.LinksExpire(l, 20) }},
	{"LinksExpire of all", func(l []impl.Link, h impl.Hello) ([]impl.Link, int) { return impl.LinksExpire(l, maxTime+6) }},
}

// guardedLinks answers a copy of list in the middle of a greater array, and that array.
func guardedLinks(list []impl.Link) ([]impl.Link, []impl.Link) {
	const margin = 20
	room := make([]impl.Link, margin+len(list)+margin)
	for i := range room {
		room[i] = impl.Link{Addr: -7, Heard: -8, Sym: -9, In: -10, Out: -11, Will: -12}
	}
	copy(room[margin:], list)
	return room[margin : margin+len(list)], room
}

func memoryLinks() [][]impl.Link {
	return [][]impl.Link{{}, linksOf(1), linksOf(8), linksOf(5), plainLinks(), linksOf(1, 5, 8), linksOf(1, 2, 3, 4, 5, 6, 7, 8), linksOf(2, 1), risingLinks(9)}
}

func TestPromise1LinksStayAsTheyWere(t *testing.T) {
	for _, given := range append(memoryLinks(), longLinks()[0]) {
		for _, hello := range []impl.Hello{plainHello(), {Valid: 1}, {}} {
			list, room := guardedLinks(given)
			h, neighbors := guardedHello(hello)
			before, neighborsBefore := slices.Clone(room), slices.Clone(neighbors)
			for _, c := range linkCalls {
				c.call(list, h)
				if !slices.Equal(room, before) || !slices.Equal(neighbors, neighborsBefore) {
					t.Fatalf("%s wrote into its %d links or its hello, or around them", c.name, len(given))
				}
			}
			impl.LinksOK(list)
			impl.LinkFind(list, 5)
			impl.SymLinks(list, 9)
			impl.LinksText(list, 9)
			if !slices.Equal(room, before) {
				t.Fatalf("a call that answers no links wrote into its %d links, or around them", len(given))
			}
		}
	}
}

func TestPromise1LinksThatAreAnsweredAreNewMemory(t *testing.T) {
	for _, given := range memoryLinks() {
		list, room := guardedLinks(given)
		before := slices.Clone(room)
		for _, c := range linkCalls {
			h, neighbors := guardedHello(plainHello())
			got, code := c.call(list, h)
			want := slices.Clone(got)
			again, codeAgain := c.call(list, h)
			clear(room)
			clear(neighbors)
			if !slices.Equal(got, want) {
				t.Errorf("%s of %d answers memory of an argument", c.name, len(given))
			}
			copy(room, before)
			clear(got[:cap(got)])
			if !slices.Equal(room, before) {
				t.Errorf("%s of %d answers memory of its argument", c.name, len(given))
			}
			if !slices.Equal(again, want) || code != codeAgain {
				t.Errorf("%s of %d answers otherwise at its second call, or the same memory", c.name, len(given))
			}
		}
	}
}

func TestPromise1WhatIsAskedOfLinksIsNewMemory(t *testing.T) {
	for _, given := range memoryLinks() {
		list, room := guardedLinks(given)
		syms, _ := impl.SymLinks(list, 9)
		lines, _ := impl.LinksText(list, 9)
		x, _ := impl.LinkFind(list, 5)
		wantSyms, wantLines, wantX := slices.Clone(syms), slices.Clone(lines), x
		symsAgain, _ := impl.SymLinks(list, 9)
		linesAgain, _ := impl.LinksText(list, 9)
		clear(symsAgain[:cap(symsAgain)])
		clear(linesAgain[:cap(linesAgain)])
		clear(room)
		if !slices.Equal(syms, wantSyms) || !slices.Equal(lines, wantLines) || x != wantX {
			t.Errorf("an answer of %v shares memory with another one, or with the links", given)
		}
	}
}

func TestPromise1LinksAreAlikeAtEachCall(t *testing.T) {
	d := &draws{74}
	wrongs, wrongHello := wrongLinks(), wrongHellos()
	for i := range 500 {
		list, h, now := d.links(), d.hello(), d.next(40)
		checkHear(t, list, 1, 2, 5, now, h)
		checkLinksAt(t, list, now)
		impl.HearHello(wrongs[i%len(wrongs)], 1, 2, 5, now, h)
		impl.HearHello(list, 1, 2, 5, now, wrongHello[i%len(wrongHello)])
		impl.HearHello(list, 1, 1, 5, now, h)
		impl.LinksExpire(list, maxTime)
		checkHear(t, list, 1, 2, 5, now, h)
		checkLinksAt(t, list, now)
	}
}

func TestPromise1LinkCallsAtOnceAnswerAlike(t *testing.T) {
	list, h := plainLinks(), plainHello()
	want, _ := impl.HearHello(list, 8, 4, 5, 10, h)
	done := make(chan bool)
	for range 8 {
		go func() {
			right := true
			for range 200 {
				got, _ := impl.HearHello(list, 8, 4, 5, 10, h)
				syms, _ := impl.SymLinks(list, 8)
				x, _ := impl.LinkFind(list, 7)
				right = right && slices.Equal(got, want) && slices.Equal(syms, []int{2, 7}) && x == list[2]
			}
			done <- right
		}()
	}
	for range 8 {
		if !<-done {
			t.Error("calls at once answer otherwise")
		}
	}
}
