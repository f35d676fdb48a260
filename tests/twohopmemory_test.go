package tests

import (
	"slices"
	"testing"

	"loop.example/g00419/impl"
)

// hearTwoCalls has calls of HearTwo that keep all, some or nothing of what they are given.
var hearTwoCalls = []struct {
	name string
	call func([]impl.Tuple, impl.Hello) ([]impl.Tuple, int)
}{
	{"HearTwo by the first", func(l []impl.Tuple, h impl.Hello) ([]impl.Tuple, int) { return impl.HearTwo(l, 3, 1, 10, true, h) }},
	{"HearTwo by one in the middle", func(l []impl.Tuple, h impl.Hello) ([]impl.Tuple, int) { return impl.HearTwo(l, 1, 3, 10, true, h) }},
	{"HearTwo by the last", func(l []impl.Tuple, h impl.Hello) ([]impl.Tuple, int) { return impl.HearTwo(l, 1, 8, 10, true, h) }},
	{"HearTwo by one that has none", func(l []impl.Tuple, h impl.Hello) ([]impl.Tuple, int) { return impl.HearTwo(l, 1, 6, 10, false, h) }},
	{"HearTwo by one that is not symmetric", func(l []impl.Tuple, h impl.Hello) ([]impl.Tuple, int) { return impl.HearTwo(l, 1, 3, 10, false, h) }},
	{"HearTwo by us", func(l []impl.Tuple, h impl.Hello) ([]impl.Tuple, int) { return impl.HearTwo(l, 3, 3, 10, true, h) }},
	{"HearTwo with a wrong now", func(l []impl.Tuple, h impl.Hello) ([]impl.Tuple, int) { return impl.HearTwo(l, 1, 3, -1, true, h) }},
}

// askTwoCalls has the calls that answer addresses.
var askTwoCalls = []struct {
	name string
	call func([]impl.Tuple, []impl.Link) ([]int, int)
}{
	{"TwoOf", func(l []impl.Tuple, links []impl.Link) ([]int, int) { return impl.TwoOf(l, 3) }},
	{"TwoOf of none", func(l []impl.Tuple, links []impl.Link) ([]int, int) { return impl.TwoOf(l, 9) }},
	{"ViaOf", func(l []impl.Tuple, links []impl.Link) ([]int, int) { return impl.ViaOf(l, links, 5, 9) }},
	{"ViaOf of none", func(l []impl.Tuple, links []impl.Link) ([]int, int) { return impl.ViaOf(l, links, 0, 9) }},
	{"StrictTwo", func(l []impl.Tuple, links []impl.Link) ([]int, int) { return impl.StrictTwo(l, links, 1, 9) }},
	{"StrictTwo of none", func(l []impl.Tuple, links []impl.Link) ([]int, int) { return impl.StrictTwo(l, links, 1, maxTime) }},
}

func memoryTwos() [][]impl.Tuple {
	return [][]impl.Tuple{{}, plainTwo()[:1], plainTwo(), fullTwo(), fullTwo()[:55], edgeTwo(), {{Key: 303}}, {{Key: 305}, {Key: 304}}, longList(impl.MaxList + 1)}
}

func TestPromise1TwoHopArgumentsStayAsTheyWere(t *testing.T) {
	for _, given := range memoryTwos() {
		for _, givenLinks := range [][]impl.Link{{}, symLinksOf(2, 3, 7), linksOf(1, 2, 3, 4, 5, 6, 7, 8), linksOf(2, 1)} {
			two, room := guardedSet(given)
			links, linkRoom := guardedLinks(givenLinks)
			before, linksBefore := slices.Clone(room), slices.Clone(linkRoom)
			for _, c := range askTwoCalls {
				c.call(two, links)
				if !slices.Equal(room, before) || !slices.Equal(linkRoom, linksBefore) {
					t.Fatalf("%s wrote into its set of %d or its links, or around them", c.name, len(given))
				}
			}
		}
		for _, hello := range []impl.Hello{plainHello(), helloOf(neighborsAt(1, 2, 3, 4, 5, 6, 7, 8)...), {Valid: 1}, {}} {
			two, room := guardedSet(given)
			h, neighbors := guardedHello(hello)
			before, neighborsBefore := slices.Clone(room), slices.Clone(neighbors)
			for _, c := range hearTwoCalls {
				c.call(two, h)
				if !slices.Equal(room, before) || !slices.Equal(neighbors, neighborsBefore) {
					t.Fatalf("%s wrote into its set of %d or its hello, or around them", c.name, len(given))
				}
			}
		}
	}
}

func TestPromise1TwoHopSetsThatAreAnsweredAreNewMemory(t *testing.T) {
	for _, given := range memoryTwos() {
		two, room := guardedSet(given)
		before := slices.Clone(room)
		for _, c := range hearTwoCalls {
			h, neighbors := guardedHello(plainHello())
			got, code := c.call(two, h)
			want := slices.Clone(got)
			again, codeAgain := c.call(two, h)
			clear(room)
			clear(neighbors)
			if !slices.Equal(got, want) {
				t.Errorf("%s of %d answers memory of an argument", c.name, len(given))
			}
			copy(room, before)
			clear(got[:cap(got)])
			if !slices.Equal(room, before) {
				t.Errorf("%s of %d answers memory of its argument", c.name, len(given))
			}
			if !slices.Equal(again, want) || code != codeAgain {
				t.Errorf("%s of %d answers otherwise at its second call, or the same memory", c.name, len(given))
			}
		}
	}
}

func TestPromise1WhatIsAskedOfTwoHopsIsNewMemory(t *testing.T) {
	for _, given := range memoryTwos() {
		for _, c := range askTwoCalls {
			links := symLinksOf(2, 3, 7)
			got, code := c.call(given, links)
			want := slices.Clone(got)
			again, codeAgain := c.call(given, links)
			clear(again[:cap(again)])
			if !slices.Equal(got, want) || code != codeAgain {
				t.Errorf("%s of %d answers otherwise at its second call, or the same memory", c.name, len(given))
			}
		}
	}
}

func TestPromise1TwoHopsAreAlikeAtEachCall(t *testing.T) {
	d := &draws{84}
	wrongs, wrongLink, wrongHello := wrongTwos(), wrongLinks(), wrongHellos()
	for i := range 300 {
		two, links, h, now := d.two(), d.links(), d.hello(), d.next(40)
		checkHearTwo(t, two, 1, 2, now, true, h)
		checkTwoAt(t, two, links, now)
		impl.HearTwo(wrongs[i%len(wrongs)], 1, 2, now, true, h)
		impl.HearTwo(two, 1, 2, now, true, wrongHello[i%len(wrongHello)])
		impl.HearTwo(two, 1, 2, now, false, h)
		impl.ViaOf(two, wrongLink[i%len(wrongLink)], 3, now)
		impl.StrictTwo(two, links, 3, maxTime)
		checkHearTwo(t, two, 1, 2, now, true, h)
		checkTwoAt(t, two, links, now)
	}
}

func TestPromise1TwoHopCallsAtOnceAnswerAlike(t *testing.T) {
	two, links, h := plainTwo(), symLinksOf(2, 3, 7), plainHello()
	want := wantHearTwo(two, 1, 3, 10, true, h)
	done := make(chan bool)
	for range 8 {
		go func() {
			right := true
			for range 200 {
				got, _ := impl.HearTwo(two, 1, 3, 10, true, h)
				vias, _ := impl.ViaOf(two, links, 5, 10)
				strict, _ := impl.StrictTwo(two, links, 1, 10)
				right = right && slices.Equal(got, want) && slices.Equal(vias, []int{3}) && slices.Equal(strict, []int{4, 5, 6, 8})
			}
			done <- right
		}()
	}
	for range 8 {
		if !<-done {
			t.Error("calls at once answer otherwise")
		}
	}
}
