package tests

import (
	"testing"

	"loop.example/g00419/impl"
)

// plainSelectors have those that have chosen us: 3 until 10, 4 until 5.
func plainSelectors() []impl.Tuple {
	return []impl.Tuple{{Key: 3, Until: 10}, {Key: 4, Until: 5}}
}

func tcMessage(hopLimit, hops int) impl.Message {
	m := plainMessage()
	m.HopLimit, m.Hops = hopLimit, hops
	return m
}

// wantMay goes through all selectors and asks of each what chapter 11 says of it.
func wantMay(m impl.Message, selectors []impl.Tuple, from, now int) bool {
	chosen := false
	for _, x := range selectors {
		chosen = chosen || x.Key == from && x.Until > now
	}
	return chosen && m.HopLimit >= 2 && m.Hops <= 254
}

func checkMay(t *testing.T, m impl.Message, selectors []impl.Tuple, from, now int) {
	t.Helper()
	want := wantMay(m, selectors, from, now)
	if got, code := impl.MayForward(m, selectors, from, now); got != want || code != impl.OK {
		t.Fatalf("MayForward(%s, %v, %d, %d) = %v, %d, not %v", sayMessage(m), selectors, from, now, got, code, want)
	}
}

func checkForwarded(t *testing.T, m impl.Message) {
	t.Helper()
	want, wantCode := impl.Message{}, impl.ErrEnd
	if m.HopLimit >= 2 && m.Hops <= 254 {
		want = impl.Message{Type: m.Type, Origin: m.Origin, Seq: m.Seq, HopLimit: m.HopLimit - 1, Hops: m.Hops + 1, Body: m.Body}
		wantCode = impl.OK
	}
	got, code := impl.Forwarded(m)
	if got != want || code != wantCode {
		t.Fatalf("Forwarded(%s) = %s, %d, not %s, %d", sayMessage(m), sayMessage(got), code, sayMessage(want), wantCode)
	}
	if code == impl.OK && !impl.MessageOK(got) {
		t.Fatalf("Forwarded(%s) made a message that is not right: %s", sayMessage(m), sayMessage(got))
	}
}

func TestPromise11MayForwardByHand(t *testing.T) {
	for _, c := range []struct {
		hopLimit, hops, from, now int
		want                      bool
	}{
		{17, 4, 3, 0, true}, {17, 4, 3, 9, true}, {17, 4, 3, 10, false}, {17, 4, 3, 11, false},
		{17, 4, 4, 4, true}, {17, 4, 4, 5, false}, {17, 4, 5, 0, false}, {17, 4, 2, 0, false}, {17, 4, 1, 0, false}, {17, 4, 8, 0, false},
		{0, 4, 3, 9, false}, {1, 4, 3, 9, false}, {2, 4, 3, 9, true}, {3, 4, 3, 9, true}, {254, 4, 3, 9, true}, {255, 4, 3, 9, true},
		{17, 0, 3, 9, true}, {17, 253, 3, 9, true}, {17, 254, 3, 9, true}, {17, 255, 3, 9, false},
		{2, 254, 3, 9, true}, {1, 254, 3, 9, false}, {2, 255, 3, 9, false}, {1, 255, 3, 9, false}, {255, 255, 3, 9, false}, {0, 0, 3, 9, false},
	} {
		if got, code := impl.MayForward(tcMessage(c.hopLimit, c.hops), plainSelectors(), c.from, c.now); got != c.want || code != impl.OK {
			t.Errorf("HopLimit %d, Hops %d, from %d, at %d: %v, %d", c.hopLimit, c.hops, c.from, c.now, got, code)
		}
	}
}

func TestPromise11ForwardedByHand(t *testing.T) {
	for _, c := range []struct{ hopLimit, hops, wantLimit, wantHops, wantCode int }{
		{17, 4, 16, 5, impl.OK}, {2, 0, 1, 1, impl.OK}, {2, 254, 1, 255, impl.OK}, {255, 0, 254, 1, impl.OK}, {255, 254, 254, 255, impl.OK},
		{1, 4, 0, 0, impl.ErrEnd}, {0, 4, 0, 0, impl.ErrEnd}, {17, 255, 0, 0, impl.ErrEnd}, {1, 255, 0, 0, impl.ErrEnd}, {0, 0, 0, 0, impl.ErrEnd},
	} {
		want := impl.Message{}
		if c.wantCode == impl.OK {
			want = tcMessage(c.wantLimit, c.wantHops)
		}
		if got, code := impl.Forwarded(tcMessage(c.hopLimit, c.hops)); got != want || code != c.wantCode {
			t.Errorf("HopLimit %d, Hops %d: %s, %d", c.hopLimit, c.hops, sayMessage(got), code)
		}
	}
}

func TestPromise11EachHopLimitAndHops(t *testing.T) {
	for hopLimit := range 256 {
		for hops := range 256 {
			m := tcMessage(hopLimit, hops)
			checkMay(t, m, plainSelectors(), 3, 9)
			checkMay(t, m, plainSelectors(), 3, 10)
			checkForwarded(t, m)
			m.Type = impl.MeHello
			checkForwarded(t, m)
		}
	}
}

// Forwarded asks for no type: whether a message is one to pass on, MayForward says.
func TestPromise11EdgesOfMessages(t *testing.T) {
	for _, m := range edgeMessages() {
		checkForwarded(t, m)
		if m.Type != impl.MeTc {
			continue
		}
		for from := range 10 {
			for now := -1; now <= 11; now++ {
				checkMay(t, m, plainSelectors(), from, now)
			}
		}
	}
}

// A message that goes from hop to hop comes to its end, whichever of its counts does so first.
func TestPromise11HopsAreUsedUp(t *testing.T) {
	for _, c := range []struct{ hopLimit, hops, want int }{{255, 0, 254}, {255, 1, 254}, {255, 2, 253}, {255, 200, 55}, {5, 0, 4}, {2, 0, 1}, {1, 0, 0}, {0, 0, 0}, {5, 253, 2}, {5, 255, 0}} {
		m, times := tcMessage(c.hopLimit, c.hops), 0
		for {
			may, mayCode := impl.MayForward(m, plainSelectors(), 3, 9)
			next, code := impl.Forwarded(m)
			if may != (code == impl.OK) || mayCode != impl.OK {
				t.Fatalf("%s: MayForward %v, %d, Forwarded %d", sayMessage(m), may, mayCode, code)
			}
			if code != impl.OK || times > 300 {
				break
			}
			m, times = next, times+1
		}
		if times != c.want {
			t.Errorf("HopLimit %d, Hops %d: passed on %d times, not %d", c.hopLimit, c.hops, times, c.want)
		}
	}
}

func TestPromise11EachTimeOfASelector(t *testing.T) {
	for _, until := range []int{0, 1, 10, maxNow, maxTime - 1, maxTime} {
		for _, value := range []int{0, 1, maxTime} {
			selectors := []impl.Tuple{{Key: 2, Until: 10}, {Key: 3, Until: until, Value: value}, {Key: 4, Until: maxTime}}
			for _, now := range []int{until - 2, until - 1, until, until + 1} {
				if got, code := impl.MayForward(plainMessage(), selectors, 3, now); got != (now < until) || code != impl.OK {
					t.Errorf("until %d, at %d: %v, %d", until, now, got, code)
				}
			}
		}
	}
}

func TestPromise11NoSelectorAtAll(t *testing.T) {
	for _, selectors := range [][]impl.Tuple{nil, {}} {
		for from := -1; from <= 10; from++ {
			for _, now := range []int{-1, 0, 1, maxNow} {
				if got, code := impl.MayForward(plainMessage(), selectors, from, now); got || code != impl.OK {
					t.Errorf("from %d, at %d: %v, %d", from, now, got, code)
				}
			}
		}
	}
}

// Selectors are any right set, and from any integer: it is a key of it or not.
func TestPromise11RightSelectors(t *testing.T) {
	d := &draws{115}
	for _, selectors := range markSets() {
		for _, x := range selectors {
			for from := x.Key - 1; from <= x.Key+1; from++ {
				checkMay(t, plainMessage(), selectors, from, x.Until-1)
				checkMay(t, plainMessage(), selectors, from, x.Until)
				checkMay(t, plainMessage(), selectors, from, d.next(100))
			}
		}
	}
}

func TestPromise11DrawnMessages(t *testing.T) {
	d := &draws{116}
	may := 0
	for range 5000 {
		m, selectors, from, now := d.message(), d.set(d.next(9)), 1+d.next(8), d.next(42)-1
		checkForwarded(t, m)
		m.Type = impl.MeTc
		checkMay(t, m, selectors, from, now)
		if wantMay(m, selectors, from, now) {
			may++
		}
	}
	if may < 300 || may > 4700 {
		t.Error("too few or too many may be passed on to tell anything:", may)
	}
}
