package tests

import (
	"slices"
	"testing"

	"loop.example/g00419/impl"
)

// A setCall is a call that answers a set.
type setCall struct {
	name string
	call func([]impl.Tuple) ([]impl.Tuple, int)
}

// setCalls has the calls of chapter 4, with arguments for which they keep all, some or nothing of a set.
var setCalls = []setCall{
	{"SetPut of a new key", func(l []impl.Tuple) ([]impl.Tuple, int) { return impl.SetPut(l, impl.Tuple{Key: 2, Until: 77}) }},
	{"SetPut at the beginning", func(l []impl.Tuple) ([]impl.Tuple, int) { return impl.SetPut(l, impl.Tuple{Until: 77}) }},
	{"SetPut at the end", func(l []impl.Tuple) ([]impl.Tuple, int) { return impl.SetPut(l, impl.Tuple{Key: maxKey, Until: 77}) }},
	{"SetPut of a key that is there", func(l []impl.Tuple) ([]impl.Tuple, int) { return impl.SetPut(l, impl.Tuple{Key: 1, Until: 77}) }},
	{"SetPut of a wrong tuple", func(l []impl.Tuple) ([]impl.Tuple, int) { return impl.SetPut(l, impl.Tuple{Key: -1}) }},
	{"SetDrop of the first", func(l []impl.Tuple) ([]impl.Tuple, int) { return impl.SetDrop(l, 1) }},
	{"SetDrop of one in the middle", func(l []impl.Tuple) ([]impl.Tuple, int) { return impl.SetDrop(l, 3) }},
	{"SetDrop of the last", func(l []impl.Tuple) ([]impl.Tuple, int) { return impl.SetDrop(l, 127) }},
	{"SetDrop of none", func(l []impl.Tuple) ([]impl.Tuple, int) { return impl.SetDrop(l, -5) }},
	{"SetExpire of none", func(l []impl.Tuple) ([]impl.Tuple, int) { return impl.SetExpire(l, -1) }},
	{"SetExpire of some", func(l []impl.Tuple) ([]impl.Tuple, int) { return impl.SetExpire(l, 70) }},
	{"SetExpire of all", func(l []impl.Tuple) ([]impl.Tuple, int) { return impl.SetExpire(l, maxTime) }},
	{"SetRange of all", func(l []impl.Tuple) ([]impl.Tuple, int) { return impl.SetRange(l, -1, maxKey) }},
	{"SetRange of some", func(l []impl.Tuple) ([]impl.Tuple, int) { return impl.SetRange(l, 2, 9) }},
	{"SetRange of none", func(l []impl.Tuple) ([]impl.Tuple, int) { return impl.SetRange(l, 9, 2) }},
}

// guardedSet answers a copy of list in the middle of a greater array, and that array.
func guardedSet(list []impl.Tuple) ([]impl.Tuple, []impl.Tuple) {
	const margin = 70
	room := make([]impl.Tuple, margin+len(list)+margin)
	for i := range room {
		room[i] = impl.Tuple{Key: -7, Until: -8, Value: -9}
	}
	copy(room[margin:], list)
	return room[margin : margin+len(list)], room
}

func memorySets() [][]impl.Tuple {
	return [][]impl.Tuple{{}, fullSet()[:1], fullSet()[:2], fullSet()[:5], fullSet()[:63], fullSet(), edgeSet(), {{Key: 2}, {Key: 1}}, longList(65)}
}

// checkSetsStay holds the calls, and ask, which makes all those that answer no set, to writing nothing into a set.
func checkSetsStay(t *testing.T, sets [][]impl.Tuple, calls []setCall, ask func(list []impl.Tuple)) {
	t.Helper()
	for _, set := range sets {
		list, room := guardedSet(set)
		before := slices.Clone(room)
		for _, c := range calls {
			c.call(list)
			if !slices.Equal(room, before) {
				t.Fatalf("%s wrote into its set of %d, or around it", c.name, len(set))
			}
		}
		ask(list)
		if !slices.Equal(room, before) {
			t.Fatalf("a call that answers no set wrote into its set of %d, or around it", len(set))
		}
	}
}

// checkSetsAreNew asks that what the calls answer is neither a set's memory nor that of another answer.
func checkSetsAreNew(t *testing.T, sets [][]impl.Tuple, calls []setCall) {
	t.Helper()
	for _, set := range sets {
		list, room := guardedSet(set)
		before := slices.Clone(room)
		for _, c := range calls {
			got, code := c.call(list)
			want := slices.Clone(got)
			clear(room)
			if !slices.Equal(got, want) {
				t.Errorf("%s of %d answers memory of its argument", c.name, len(set))
			}
			copy(room, before)
			again, codeAgain := c.call(list)
			clear(got[:cap(got)])
			if !slices.Equal(room, before) {
				t.Errorf("%s of %d answers memory of its argument", c.name, len(set))
			}
			if !slices.Equal(again, want) || code != codeAgain {
				t.Errorf("%s of %d answers otherwise at its second call, or the same memory", c.name, len(set))
			}
		}
	}
}

func TestPromise1SetsStayAsTheyWere(t *testing.T) {
	checkSetsStay(t, memorySets(), setCalls, func(list []impl.Tuple) {
		impl.SetOK(list)
		impl.SetFind(list, 1)
		impl.SetKeys(list)
		impl.SetNext(list)
	})
}

func TestPromise1SetsThatAreAnsweredAreNewMemory(t *testing.T) {
	checkSetsAreNew(t, memorySets(), setCalls)
}

func TestPromise1KeysThatAreAnsweredAreNewMemory(t *testing.T) {
	one, _ := impl.SetKeys(fullSet())
	two, _ := impl.SetKeys(fullSet())
	clear(one[:cap(one)])
	for i, x := range fullSet() {
		if two[i] != x.Key {
			t.Fatal("two answers of SetKeys share memory")
		}
	}
}

func TestPromise1SetsAreAlikeAtEachCall(t *testing.T) {
	d := &draws{45}
	wrongs := wrongSets()
	for i := range 300 {
		list := d.set(d.next(maxSet + 1))
		x, now := d.tuple(d.next(130)), d.next(42)
		checkPut(t, list, x)
		checkExpire(t, list, now)
		impl.SetPut(wrongs[i%len(wrongs)], x)
		impl.SetExpire(longList(impl.MaxList+1), now)
		impl.SetRange(list, now, -now)
		checkPut(t, list, x)
		checkExpire(t, list, now)
	}
}
