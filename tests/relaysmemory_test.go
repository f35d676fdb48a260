package tests

import (
	"slices"
	"testing"

	"loop.example/g00419/impl"
)

// listRelayCalls has the calls that answer relays.
var listRelayCalls = []struct {
	name string
	call func([]impl.Tuple, []impl.Link, []int) ([]int, int)
}{
	{"FloodMprs", func(two []impl.Tuple, links []impl.Link, mprs []int) ([]int, int) {
		return impl.FloodMprs(two, links, 1, 9)
	}},
	{"FloodMprs of none", func(two []impl.Tuple, links []impl.Link, mprs []int) ([]int, int) {
		return impl.FloodMprs(two, links, 1, maxTime)
	}},
	{"RouteMprs", func(two []impl.Tuple, links []impl.Link, mprs []int) ([]int, int) {
		return impl.RouteMprs(two, links, 1, 9)
	}},
	{"RouteMprs of none", func(two []impl.Tuple, links []impl.Link, mprs []int) ([]int, int) {
		return impl.RouteMprs(two, links, 1, maxTime)
	}},
	{"Needless", func(two []impl.Tuple, links []impl.Link, mprs []int) ([]int, int) {
		return impl.Needless(two, links, 1, 9, mprs)
	}},
	{"Needless of all", func(two []impl.Tuple, links []impl.Link, mprs []int) ([]int, int) {
		return impl.Needless(two, links, 1, maxTime, mprs)
	}},
}

// guardedRelays answers a copy of list in the middle of a greater array, and that array.
func guardedRelays(list []int) ([]int, []int) {
	const margin = 20
	room := slices.Repeat([]int{-77}, margin+len(list)+margin)
	copy(room[margin:], list)
	return room[margin : margin+len(list)], room
}

func memoryRelays() [][]int {
	return [][]int{{}, {2}, {3, 2}, {2, 3, 7, 2}, {0, 9, -1, 3}, {1, 2, 3, 4, 5, 6, 7, 8}, make([]int, 9), make([]int, impl.MaxList+1)}
}

func relayMemoryLinks() [][]impl.Link {
	return [][]impl.Link{{}, symLinksOf(2, 3, 7), willLinks(1, 7, 2, 3, 3, 4, 7, 3), symLinksOf(1, 2, 3, 4, 5, 6, 7, 8), linksOf(2, 1)}
}

func TestPromise1RelayArgumentsStayAsTheyWere(t *testing.T) {
	for _, given := range memoryTwos() {
		for _, givenLinks := range relayMemoryLinks() {
			for _, givenRelays := range memoryRelays() {
				two, room := guardedSet(given)
				links, linkRoom := guardedLinks(givenLinks)
				mprs, relayRoom := guardedRelays(givenRelays)
				before, linksBefore, relaysBefore := slices.Clone(room), slices.Clone(linkRoom), slices.Clone(relayRoom)
				check := func(name string) {
					if !slices.Equal(room, before) || !slices.Equal(linkRoom, linksBefore) || !slices.Equal(relayRoom, relaysBefore) {
						t.Fatalf("%s wrote into its set of %d, its links or its %d relays, or around them", name, len(given), len(givenRelays))
					}
				}
				for _, c := range listRelayCalls {
					c.call(two, links, mprs)
					check(c.name)
				}
				for _, c := range relayCalls {
					c.call(two, links, 1, 9, 5, mprs)
					check(c.name)
				}
			}
		}
	}
}

func TestPromise1RelaysThatAreAnsweredAreNewMemory(t *testing.T) {
	for _, given := range memoryTwos() {
		for _, givenLinks := range relayMemoryLinks() {
			for _, givenRelays := range memoryRelays() {
				for _, c := range listRelayCalls {
					mprs, room := guardedRelays(givenRelays)
					before := slices.Clone(room)
					got, code := c.call(given, givenLinks, mprs)
					want := slices.Clone(got)
					again, codeAgain := c.call(given, givenLinks, mprs)
					clear(room)
					if !slices.Equal(got, want) {
						t.Fatalf("%s of %d relays answers memory of its argument", c.name, len(givenRelays))
					}
					copy(room, before)
					clear(got[:cap(got)])
					if !slices.Equal(room, before) {
						t.Fatalf("%s of %d relays answers memory of its argument", c.name, len(givenRelays))
					}
					if !slices.Equal(again, want) || code != codeAgain {
						t.Fatalf("%s of %d relays answers otherwise at its second call, or the same memory", c.name, len(givenRelays))
					}
				}
			}
		}
	}
}

func TestPromise1RelaysAreAlikeAtEachCall(t *testing.T) {
	d := &draws{95}
	wrongs, wrongLink := wrongTwos(), wrongLinks()
	for i := range 300 {
		two, links, mprs, now := d.closeTwo(), d.closeLinks(), d.relayList(), 9+d.next(3)
		checkFloodAt(t, two, links, 1, now)
		checkRouteAt(t, two, links, 1, now)
		for _, c := range relayCalls {
			c.call(wrongs[i%len(wrongs)], links, 1, now, 2, mprs)
			c.call(two, wrongLink[i%len(wrongLink)], 1, now, 2, mprs)
			c.call(two, links, 2, maxTime, 3, manyRelays()[0])
		}
		checkFloodAt(t, two, links, 1, now)
		checkRouteAt(t, two, links, 1, now)
		checkReached(t, two, links, 1, now, mprs)
		checkKeeps(t, two, links, 1, now, mprs)
	}
}

func TestPromise1RelayCallsAtOnceAnswerAlike(t *testing.T) {
	two, links := keysTwo(205, 206, 207, 305, 306, 308, 407, 408), willLinks(2, 3, 3, 3, 4, 4)
	done := make(chan bool)
	for range 8 {
		go func() {
			right := true
			for range 200 {
				flood, _ := impl.FloodMprs(two, links, 1, 10)
				route, _ := impl.RouteMprs(two, links, 1, 10)
				needless, _ := impl.Needless(two, links, 1, 10, []int{4, 3, 2})
				right = right && slices.Equal(flood, []int{2, 4}) && slices.Equal(route, []int{2, 4}) && slices.Equal(needless, []int{4, 3, 2})
			}
			done <- right
		}()
	}
	for range 8 {
		if !<-done {
			t.Error("calls at once answer otherwise")
		}
	}
}
