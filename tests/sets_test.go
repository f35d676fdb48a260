package tests

import (
	"math"
	"slices"
	"testing"

	"loop.example/g00419/impl"
)

const (
	maxKey  = 1000000
	maxTime = 1073741824
	maxSet  = 64
)

// wildKeys are the integers that are handed in as a key, a now or a bound.
var wildKeys = append([]int{maxKey - 1, maxKey, maxKey + 1, maxTime - 1, maxTime, maxTime + 1, 1<<32 + maxKey}, wildInts...)

func (d *draws) tuple(key int) impl.Tuple {
	return impl.Tuple{Key: key, Until: d.next(40), Value: d.next(maxTime + 1)}
}

// set answers n tuples whose keys rise by steps of 1 to 3, so that drawn keys often are there.
func (d *draws) set(n int) []impl.Tuple {
	var list []impl.Tuple
	key := d.next(3)
	for range n {
		list = append(list, d.tuple(key))
		key += 1 + d.next(3)
	}
	return list
}

// edgeSet has the least and the greatest of all that a tuple may have.
func edgeSet() []impl.Tuple {
	return []impl.Tuple{{}, {Key: 1, Until: maxTime, Value: maxTime}, {Key: maxKey - 1, Until: 1}, {Key: maxKey, Until: maxTime}}
}

func fullSet() []impl.Tuple {
	var list []impl.Tuple
	for i := range maxSet {
		list = append(list, impl.Tuple{Key: 2*i + 1, Until: 100 - i, Value: i})
	}
	return list
}

func rightSets() [][]impl.Tuple {
	sets := [][]impl.Tuple{nil, {}, {{}}, {{Key: maxKey}}, edgeSet(), fullSet(), fullSet()[:maxSet-1]}
	d := &draws{41}
	for n := range maxSet + 1 {
		sets = append(sets, d.set(n))
	}
	return sets
}

// longList has more tuples than a set may, with keys that rise.
func longList(n int) []impl.Tuple {
	list := make([]impl.Tuple, n)
	for i := range list {
		list[i] = impl.Tuple{Key: i, Until: 5, Value: 1}
	}
	return list
}

func wrongTuples() []impl.Tuple {
	var list []impl.Tuple
	for _, n := range wildKeys {
		if n < 0 || n > maxKey {
			list = append(list, impl.Tuple{Key: n, Until: 9, Value: 9})
		}
		if n < 0 || n > maxTime {
			list = append(list, impl.Tuple{Key: 9, Until: n, Value: 9}, impl.Tuple{Key: 9, Until: 9, Value: n})
		}
	}
	return list
}

func wrongSets() [][]impl.Tuple {
	sets := [][]impl.Tuple{
		{{Key: 1}, {Key: 1}}, {{Key: 2}, {Key: 1}}, {{}, {}}, {{Key: maxKey}, {}},
		{{Key: 1}, {Key: 3}, {Key: 2}}, {{Key: 1}, {Key: 3}, {Key: 3}}, {{Key: 3}, {Key: 3}, {Key: 4}}, {{Key: 3}, {Key: 2}, {Key: 4}},
		longList(maxSet + 1), longList(maxSet + 2), longList(impl.MaxList - 1), longList(impl.MaxList),
	}
	for _, x := range wrongTuples() {
		sets = append(sets, []impl.Tuple{x}, []impl.Tuple{{Key: 8}, x}, []impl.Tuple{x, {Key: 10}}, []impl.Tuple{{Key: 8}, x, {Key: 10}})
	}
	return sets
}

// longSets are longer than any list that is handed in may be; one of them is wrong in another way, too.
func longSets() [][]impl.Tuple {
	wrong := longList(impl.MaxList + 1)
	wrong[7].Key = -1
	return [][]impl.Tuple{longList(impl.MaxList + 1), wrong, make([]impl.Tuple, impl.MaxList+1), longList(70000)}
}

// wantPut goes from the first tuple on, and doesn't search by halves.
func wantPut(list []impl.Tuple, x impl.Tuple) []impl.Tuple {
	var want []impl.Tuple
	for _, y := range list {
		if y.Key < x.Key {
			want = append(want, y)
		}
	}
	want = append(want, x)
	for _, y := range list {
		if y.Key > x.Key {
			want = append(want, y)
		}
	}
	return want
}

// chosen answers those tuples for which keep holds.
func chosen(list []impl.Tuple, keep func(impl.Tuple) bool) []impl.Tuple {
	var want []impl.Tuple
	for _, x := range list {
		if keep(x) {
			want = append(want, x)
		}
	}
	return want
}

func hasKey(list []impl.Tuple, key int) bool {
	return slices.ContainsFunc(list, func(x impl.Tuple) bool { return x.Key == key })
}

func checkTuples(t *testing.T, what string, got []impl.Tuple, code int, want []impl.Tuple, wantCode int) {
	t.Helper()
	if !slices.Equal(got, want) || code != wantCode {
		t.Errorf("%s = %v, %d, not %v, %d", what, got, code, want, wantCode)
	}
}

func checkPut(t *testing.T, list []impl.Tuple, x impl.Tuple) {
	t.Helper()
	want, wantCode := wantPut(list, x), impl.OK
	if len(want) > maxSet {
		want, wantCode = list, impl.ErrFull
	}
	got, code := impl.SetPut(list, x)
	checkTuples(t, "SetPut", got, code, want, wantCode)
	if !impl.SetOK(got) {
		t.Error("SetPut made a set that is not right:", got)
	}
	if y, found := impl.SetFind(got, x.Key); code == impl.OK && (y != x || found != impl.OK) {
		t.Errorf("%v was put, but %v, %d is found", x, y, found)
	}
}

func checkDropAndFind(t *testing.T, list []impl.Tuple, key int) {
	t.Helper()
	want, wantCode, found := list, impl.ErrNone, impl.Tuple{}
	if hasKey(list, key) {
		want, wantCode = chosen(list, func(x impl.Tuple) bool { return x.Key != key }), impl.OK
		found = chosen(list, func(x impl.Tuple) bool { return x.Key == key })[0]
	}
	if x, code := impl.SetFind(list, key); x != found || code != wantCode {
		t.Errorf("SetFind of %d = %v, %d, not %v, %d", key, x, code, found, wantCode)
	}
	left, code := impl.SetDrop(list, key)
	checkTuples(t, "SetDrop", left, code, want, wantCode)
	if x, code := impl.SetFind(left, key); x != (impl.Tuple{}) || code != impl.ErrNone {
		t.Errorf("%d was dropped, but %v, %d is found", key, x, code)
	}
}

func checkExpire(t *testing.T, list []impl.Tuple, now int) {
	t.Helper()
	got, code := impl.SetExpire(list, now)
	checkTuples(t, "SetExpire", got, code, chosen(list, func(x impl.Tuple) bool { return x.Until > now }), impl.OK)
}

func checkRange(t *testing.T, list []impl.Tuple, low, high int) {
	t.Helper()
	got, code := impl.SetRange(list, low, high)
	checkTuples(t, "SetRange", got, code, chosen(list, func(x impl.Tuple) bool { return low <= x.Key && x.Key <= high }), impl.OK)
}

func TestPromise4Limits(t *testing.T) {
	if impl.MaxSet != maxSet {
		t.Error("MaxSet", impl.MaxSet)
	}
}

func TestPromise4RightAndWrongSets(t *testing.T) {
	for _, list := range rightSets() {
		if !impl.SetOK(list) {
			t.Errorf("SetOK says no to %v", list)
		}
	}
	for _, list := range append(wrongSets(), longList(impl.MaxList+1), longList(100000)) {
		if impl.SetOK(list) {
			t.Errorf("SetOK says yes to %d tuples %v", len(list), list[:min(4, len(list))])
		}
	}
}

func TestPromise4WhatIsPutIsFound(t *testing.T) {
	d := &draws{42}
	for _, list := range rightSets() {
		for _, key := range []int{0, 1, maxKey - 1, maxKey} {
			checkPut(t, list, d.tuple(key))
		}
		for _, y := range list {
			for key := max(y.Key-1, 0); key <= min(y.Key+1, maxKey); key++ {
				checkPut(t, list, d.tuple(key))
			}
			checkPut(t, list, y)
		}
		checkPut(t, list, impl.Tuple{Key: 50, Until: maxTime, Value: maxTime})
		checkPut(t, list, impl.Tuple{Key: 50})
	}
}

func TestPromise4AFullSetTakesOnlyKeysThatAreThere(t *testing.T) {
	list := fullSet()
	for _, key := range []int{0, 2, 64, 126, 128, maxKey} {
		got, code := impl.SetPut(list, impl.Tuple{Key: key})
		checkTuples(t, "SetPut", got, code, list, impl.ErrFull)
	}
	for i, y := range list {
		x := impl.Tuple{Key: y.Key, Until: 7, Value: 1000 + i}
		want := slices.Clone(list)
		want[i] = x
		got, code := impl.SetPut(list, x)
		checkTuples(t, "SetPut", got, code, want, impl.OK)
	}
	got, code := impl.SetPut(list[1:], impl.Tuple{Key: 0})
	checkTuples(t, "SetPut", got, code, append([]impl.Tuple{{}}, list[1:]...), impl.OK)
}

func TestPromise4WhatIsDroppedIsNotFound(t *testing.T) {
	for _, list := range rightSets() {
		for key := -2; key <= 200; key++ {
			checkDropAndFind(t, list, key)
		}
		for _, key := range wildKeys {
			mustNotPanic(t, "SetDrop or SetFind", func() { checkDropAndFind(t, list, key) })
		}
	}
}

func TestPromise4WhatIsOldGoesAtItsTime(t *testing.T) {
	for _, list := range rightSets() {
		for now := -2; now <= 105; now++ {
			checkExpire(t, list, now)
		}
		for _, now := range wildKeys {
			mustNotPanic(t, "SetExpire", func() { checkExpire(t, list, now) })
		}
	}
	for _, until := range []int{0, 1, 7, maxTime - 1, maxTime} {
		list := []impl.Tuple{{Key: 3, Until: until, Value: 9}}
		got, code := impl.SetExpire(list, until-1)
		checkTuples(t, "SetExpire just ahead of its time", got, code, list, impl.OK)
		got, code = impl.SetExpire(list, until)
		checkTuples(t, "SetExpire at its time", got, code, nil, impl.OK)
		got, code = impl.SetExpire(list, until+1)
		checkTuples(t, "SetExpire behind its time", got, code, nil, impl.OK)
	}
}

func TestPromise4TheNextTimeIsWhenTheFirstGoes(t *testing.T) {
	for _, list := range rightSets() {
		n, code := impl.SetNext(list)
		if len(list) == 0 {
			if n != 0 || code != impl.ErrNone {
				t.Errorf("SetNext of none = %d, %d", n, code)
			}
			continue
		}
		ahead, _ := impl.SetExpire(list, n-1)
		at, _ := impl.SetExpire(list, n)
		if code != impl.OK || len(ahead) != len(list) || len(at) == len(list) {
			t.Errorf("SetNext of %v = %d, %d", list, n, code)
		}
	}
	for place := range 5 {
		list := []impl.Tuple{{Key: 1, Until: maxTime}, {Key: 2, Until: maxTime}, {Key: 3, Until: maxTime}, {Key: 4, Until: maxTime}, {Key: 5, Until: maxTime}}
		if n, code := impl.SetNext(list); n != maxTime || code != impl.OK {
			t.Errorf("SetNext = %d, %d", n, code)
		}
		list[place].Until = 0
		if n, code := impl.SetNext(list); n != 0 || code != impl.OK {
			t.Errorf("SetNext with the least at %d = %d, %d", place, n, code)
		}
	}
}

func TestPromise4Keys(t *testing.T) {
	for _, list := range rightSets() {
		var want []int
		for _, x := range list {
			want = append(want, x.Key)
		}
		if got, code := impl.SetKeys(list); !slices.Equal(got, want) || code != impl.OK {
			t.Errorf("SetKeys = %v, %d, not %v", got, code, want)
		}
	}
}

func TestPromise4Ranges(t *testing.T) {
	d := &draws{43}
	for _, list := range rightSets() {
		for range 200 {
			checkRange(t, list, d.next(140)-5, d.next(140)-5)
		}
		for _, x := range list {
			for _, c := range [][2]int{{0, 0}, {-1, 0}, {0, 1}, {1, 0}, {-1, -1}, {1, 1}, {1, -1}} {
				checkRange(t, list, x.Key+c[0], x.Key+c[1])
			}
		}
	}
	for _, list := range [][]impl.Tuple{nil, edgeSet(), fullSet()} {
		for _, low := range wildKeys {
			for _, high := range wildKeys {
				mustNotPanic(t, "SetRange", func() { checkRange(t, list, low, high) })
			}
		}
	}
	got, code := impl.SetRange(edgeSet(), math.MinInt, math.MaxInt)
	checkTuples(t, "SetRange of all", got, code, edgeSet(), impl.OK)
	got, code = impl.SetRange(edgeSet(), math.MaxInt, math.MinInt)
	checkTuples(t, "SetRange the wrong way round", got, code, nil, impl.OK)
}

// checkAllCalls asks that each call on a set answers this code, and else zero.
func checkAllCalls(t *testing.T, list []impl.Tuple, want int) {
	t.Helper()
	for _, n := range []int{0, 9, maxKey, -1, math.MinInt, math.MaxInt} {
		for _, x := range []impl.Tuple{{Key: 9}, {Key: n}, {Until: n}, {Value: n}} {
			got, code := impl.SetPut(list, x)
			checkTuples(t, "SetPut", got, code, nil, want)
		}
		got, code := impl.SetDrop(list, n)
		checkTuples(t, "SetDrop", got, code, nil, want)
		got, code = impl.SetExpire(list, n)
		checkTuples(t, "SetExpire", got, code, nil, want)
		for _, high := range []int{n, 0, math.MaxInt} {
			got, code = impl.SetRange(list, n, high)
			checkTuples(t, "SetRange", got, code, nil, want)
		}
		if x, code := impl.SetFind(list, n); x != (impl.Tuple{}) || code != want {
			t.Errorf("SetFind = %v, %d, not %d", x, code, want)
		}
	}
	if keys, code := impl.SetKeys(list); len(keys) != 0 || code != want {
		t.Errorf("SetKeys = %v, %d, not %d", keys, code, want)
	}
	if n, code := impl.SetNext(list); n != 0 || code != want {
		t.Errorf("SetNext = %d, %d, not %d", n, code, want)
	}
}

func TestPromise4WrongSetsAreBad(t *testing.T) {
	for _, list := range wrongSets() {
		mustNotPanic(t, "a call on a wrong set", func() { checkAllCalls(t, list, impl.ErrBad) })
	}
}

func TestPromise4LongListsAreLongAheadOfBad(t *testing.T) {
	for _, list := range longSets() {
		checkAllCalls(t, list, impl.ErrLong)
	}
}

func TestPromise4WrongTuplesAreBadAheadOfFull(t *testing.T) {
	for _, list := range [][]impl.Tuple{nil, {{Key: 9}}, fullSet()} {
		for _, x := range wrongTuples() {
			mustNotPanic(t, "SetPut", func() {
				got, code := impl.SetPut(list, x)
				checkTuples(t, "SetPut of a wrong tuple", got, code, nil, impl.ErrBad)
			})
		}
	}
}

func TestPromise4ManyCallsOneAfterTheOther(t *testing.T) {
	d := &draws{44}
	var list []impl.Tuple
	for i := range 4000 {
		key := d.next(90)
		switch d.next(5) {
		case 0, 1, 2:
			checkPut(t, list, d.tuple(key))
			list, _ = impl.SetPut(list, d.tuple(key))
		case 3:
			checkDropAndFind(t, list, key)
			list, _ = impl.SetDrop(list, key)
		case 4:
			if i%40 == 0 {
				checkExpire(t, list, 30)
				list, _ = impl.SetExpire(list, 30)
			}
		}
		if !impl.SetOK(list) {
			t.Fatalf("after %d calls the set is not right: %v", i+1, list)
		}
	}
}
