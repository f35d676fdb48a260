package tests

import (
	"cmp"
	"slices"
	"testing"

	"loop.example/g00419/impl"
)

// hearer is 1 at tick 10. 2 is symmetric and has chosen us, 3 is symmetric and has not, 4 is heard, 5 is lost. Of 6
// number 1 was seen, 2 was passed on, and 3 was so long ago.
func hearer() impl.Router {
	return impl.Router{
		Addr: 1, Will: 3, Seq: 50, Ansn: 5, Now: 10,
		Links: []impl.Link{
			{Addr: 2, Heard: 15, Sym: 14, In: 5, Out: 7, Will: 3},
			{Addr: 3, Heard: 14, Sym: 14, In: 4, Out: 258, Will: 3},
			{Addr: 4, Heard: 14, In: 6, Will: 3},
			{Addr: 5, Heard: 10, Sym: 20, In: 1, Out: 1, Will: 3},
		},
		Two:       []impl.Tuple{{Key: 206, Until: 15, Value: 3}, {Key: 308, Until: 14, Value: 2}},
		Selectors: []impl.Tuple{{Key: 2, Until: 15}},
		Dups:      []impl.Tuple{{Key: 6*65536 + 1, Until: 20}, {Key: 6*65536 + 2, Until: 20, Value: 1}, {Key: 6*65536 + 3, Until: 10, Value: 1}},
		Topology:  impl.Topology{Sources: []impl.Source{{Addr: 6, Ansn: 7, Until: 25}}, Edges: []impl.Tuple{{Key: 602, Until: 25, Value: 3}}},
		Last:      edgesTo(2),
		Errors:    4,
	}
}

func helloFrom(origin int, list ...impl.Neighbor) impl.Message {
	return impl.Message{Type: impl.MeHello, Origin: origin, Seq: 9, HopLimit: 1, Body: helloBytes(impl.Hello{Will: 6, Valid: 8, List: list})}
}

func symNeighbor(addr, metric int) impl.Neighbor {
	return impl.Neighbor{Addr: addr, Status: impl.StSym, Metric: metric}
}

func mprNeighbor(addr, metric int) impl.Neighbor {
	return impl.Neighbor{Addr: addr, Status: impl.StSym, Metric: metric, Mpr: true}
}

// tcFrom is an advertisement with number 8 and hops left.
func tcFrom(origin, seq int, list ...impl.Edge) impl.Message {
	return impl.Message{Type: impl.MeTc, Origin: origin, Seq: seq, HopLimit: 9, Hops: 2, Body: tcBytes(impl.Tc{Ansn: 8, Valid: 15, List: list})}
}

func oneMoreError(r impl.Router) impl.Router {
	r.Errors = min(r.Errors+1, maxErrors)
	return r
}

func wantHelloHeard(r impl.Router, from, cost int, m impl.Message) impl.Router {
	h, code := impl.DecodeHello(m.Body)
	if code != impl.OK || m.Origin != from {
		return oneMoreError(r)
	}
	x := wantHeard(r.Links, r.Addr, from, cost, r.Now, h)
	r.Links = append(linksBut(r.Links, from), x)
	slices.SortFunc(r.Links, func(x, y impl.Link) int { return cmp.Compare(x.Addr, y.Addr) })
	r.Two = wantHearTwo(r.Two, r.Addr, from, r.Now, wantStatus(x, r.Now) == 2, h)
	others := chosen(r.Selectors, func(x impl.Tuple) bool { return x.Key != from })
	if !slices.ContainsFunc(h.List, func(x impl.Neighbor) bool { return x.Addr == r.Addr && x.Mpr }) {
		r.Selectors = others
	} else if len(others) < maxSet {
		r.Selectors = wantPut(others, impl.Tuple{Key: from, Until: r.Now + h.Valid})
	}
	return r
}

// wantTcHeard answers whether it is passed on, too.
func wantTcHeard(r impl.Router, from int, m impl.Message) (impl.Router, bool) {
	if m.Origin == r.Addr || wantStatus(linkAt(r.Links, from), r.Now) != 2 {
		return r, false
	}
	tc, code := impl.DecodeTc(m.Body)
	if code != impl.OK {
		return oneMoreError(r), false
	}
	seen, sent := wantSeen(r.Dups, m.Origin, m.Seq, r.Now)
	pass := !sent && wantMay(m, r.Selectors, from, r.Now)
	if seen && !pass {
		return r, false
	}
	dups, code := wantMark(r.Dups, m.Origin, m.Seq, r.Now, pass)
	if code != impl.OK {
		return oneMoreError(r), false
	}
	r.Dups = dups
	if !seen {
		r.Topology, _ = wantHearTc(r.Topology, m.Origin, r.Now, tc)
	}
	return r, pass
}

// wantHearing goes message by message, by chapter 13's words.
func wantHearing(r impl.Router, from, cost int, list []impl.Message) (impl.Router, []impl.Message) {
	var out []impl.Message
	for _, m := range list {
		if m.Type == 1 {
			r = wantHelloHeard(r, from, cost, m)
			continue
		}
		x, pass := wantTcHeard(r, from, m)
		if pass {
			m.HopLimit, m.Hops = m.HopLimit-1, m.Hops+1
			out = append(out, m)
		}
		r = x
	}
	return r, out
}

// checkHearing answers the router that has heard, and what it passes on.
func checkHearing(t *testing.T, r impl.Router, from, cost int, list ...impl.Message) (impl.Router, []byte) {
	t.Helper()
	want, out := wantHearing(r, from, cost, list)
	got, b, code := impl.RouterHear(r, from, cost, []byte(packetBytes(list)))
	if !sameRouter(got, want) || string(b) != wantPacket(out) || code != impl.OK {
		t.Fatalf("RouterHear(%v, %d, %d, %v) = %v, %q, %d, not %v, %q", r, from, cost, list, got, b, code, want, wantPacket(out))
	}
	if !impl.RouterOK(got) {
		t.Fatalf("RouterHear(%v, %d, %d, %v) made a router that is not right: %v", r, from, cost, list, got)
	}
	return got, b
}

// checkNoPacketHeard asks that bytes that are no packet change nothing but Errors.
func checkNoPacketHeard(t *testing.T, r impl.Router, from, cost int, b []byte) {
	t.Helper()
	mustNotPanic(t, "RouterHear", func() {
		got, out, code := impl.RouterHear(r, from, cost, b)
		if !sameRouter(got, oneMoreError(r)) || len(out) != 0 || code != impl.ErrForm {
			t.Errorf("RouterHear(%v, %d, %d, %.40q) = %v, %q, %d", r, from, cost, b, got, out, code)
		}
	})
}

// A hearCase is what comes from whom, what then is another one, and whether it is passed on.
type hearCase struct {
	what   string
	from   int
	m      impl.Message
	change func(r *impl.Router)
	passed bool
}

func checkHearCases(t *testing.T, base func() impl.Router, cases []hearCase) {
	t.Helper()
	for _, c := range cases {
		want, m := base(), c.m
		if c.change != nil {
			c.change(&want)
		}
		got, b, code := impl.RouterHear(base(), c.from, 20, []byte(packetBytes([]impl.Message{c.m})))
		if !sameRouter(got, want) || code != impl.OK {
			t.Errorf("%s: %v, %d, not %v", c.what, got, code, want)
		}
		m.HopLimit, m.Hops = m.HopLimit-1, m.Hops+1
		if c.passed != (string(b) == packetBytes([]impl.Message{m})) || c.passed != (len(b) > 0) {
			t.Errorf("%s: passed on %q", c.what, b)
		}
		checkHearing(t, base(), c.from, 20, c.m)
	}
}

func TestPromise13HellosByHand(t *testing.T) {
	six, seven := symNeighbor(6, 30), symNeighbor(7, 258)
	link := func(addr, sym, out int) impl.Link {
		return impl.Link{Addr: addr, Heard: 18, Sym: sym, In: 20, Out: out, Will: 6}
	}
	two := func(key, metric int) impl.Tuple { return impl.Tuple{Key: key, Until: 18, Value: metric} }
	far := hearer().Two
	choice := impl.Tuple{Key: 2, Until: 18}
	lost, heard := impl.Neighbor{Addr: 1, Metric: 40}, impl.Neighbor{Addr: 1, Status: impl.StHeard, Metric: 40}
	checkHearCases(t, hearer, []hearCase{
		{"one that hasn't us, of a symmetric neighbor", 2, helloFrom(2, six, seven), func(r *impl.Router) {
			r.Links[0], r.Two, r.Selectors = link(2, 14, 7), []impl.Tuple{two(206, 30), two(207, 258), far[1]}, nil
		}, false},
		{"one that has nobody", 2, helloFrom(2), func(r *impl.Router) {
			r.Links[0], r.Two, r.Selectors = link(2, 14, 7), far[1:], nil
		}, false},
		{"one that has us as lost", 2, helloFrom(2, lost, six, seven), func(r *impl.Router) {
			r.Links[0], r.Two, r.Selectors = link(2, 0, 7), far[1:], nil
		}, false},
		{"one that has us as heard", 2, helloFrom(2, heard, six), func(r *impl.Router) {
			r.Links[0], r.Two, r.Selectors = link(2, 18, 40), []impl.Tuple{two(206, 30), far[1]}, nil
		}, false},
		{"one that has us as symmetric", 2, helloFrom(2, symNeighbor(1, 40), seven), func(r *impl.Router) {
			r.Links[0], r.Two, r.Selectors = link(2, 18, 40), []impl.Tuple{two(207, 258), far[1]}, nil
		}, false},
		{"one that has us with Mpr again", 2, helloFrom(2, mprNeighbor(1, 40), seven), func(r *impl.Router) {
			r.Links[0], r.Two, r.Selectors = link(2, 18, 40), []impl.Tuple{two(207, 258), far[1]}, []impl.Tuple{choice}
		}, false},
		{"one that has others with Mpr", 2, helloFrom(2, symNeighbor(1, 40), mprNeighbor(6, 30)), func(r *impl.Router) {
			r.Links[0], r.Two, r.Selectors = link(2, 18, 40), []impl.Tuple{two(206, 30), far[1]}, nil
		}, false},
		{"one that has us with Mpr for the first time", 3, helloFrom(3, mprNeighbor(1, 40)), func(r *impl.Router) {
			r.Links[1], r.Two, r.Selectors = link(3, 18, 40), far[:1], []impl.Tuple{r.Selectors[0], {Key: 3, Until: 18}}
		}, false},
		{"one of a neighbor that was heard alone, and hears us now", 4, helloFrom(4, symNeighbor(1, 40), six), func(r *impl.Router) {
			r.Links[2], r.Two = link(4, 18, 40), append(r.Two, two(406, 30))
		}, false},
		{"one of a neighbor that was heard alone, without us", 4, helloFrom(4, six), func(r *impl.Router) {
			r.Links[2] = link(4, 0, 0)
		}, false},
		{"one of a neighbor that was lost: its old Sym counts again", 5, helloFrom(5, six), func(r *impl.Router) {
			r.Links[3], r.Two = link(5, 20, 1), append(r.Two, two(506, 30))
		}, false},
		{"one of a new neighbor, without us", 8, helloFrom(8, six), func(r *impl.Router) {
			r.Links = append(r.Links, link(8, 0, 0))
		}, false},
		{"one of a new neighbor that has lost us", 8, helloFrom(8, lost, six), func(r *impl.Router) {
			r.Links = append(r.Links, link(8, 0, 0))
		}, false},
		{"one of a new neighbor that has us with Mpr", 8, helloFrom(8, mprNeighbor(1, 40), six), func(r *impl.Router) {
			r.Links, r.Two, r.Selectors = append(r.Links, link(8, 18, 40)), append(r.Two, two(806, 30)), append(r.Selectors, impl.Tuple{Key: 8, Until: 18})
		}, false},
		{"one of a new neighbor that has itself", 8, helloFrom(8, symNeighbor(1, 40), symNeighbor(8, 3)), func(r *impl.Router) {
			r.Links = append(r.Links, link(8, 18, 40))
		}, false},
	})
}

func TestPromise13HellosThatCountAsErrors(t *testing.T) {
	more := func(r *impl.Router) { r.Errors++ }
	none := helloFrom(2, mprNeighbor(1, 40))
	cut, long, empty, tc := none, none, none, none
	cut.Body, long.Body, empty.Body, tc.Body = none.Body[:len(none.Body)-1], none.Body+"\x00", "", tcFrom(6, 4, edgesTo(2)...).Body
	otherCut := cut
	otherCut.Origin = 3
	checkHearCases(t, hearer, []hearCase{
		{"one of another Origin", 2, helloFrom(3, mprNeighbor(1, 40)), more, false},
		{"one of another Origin, from one that is new", 8, helloFrom(2, mprNeighbor(1, 40)), more, false},
		{"one with our Origin", 2, helloFrom(1, mprNeighbor(1, 40)), more, false},
		{"a cut one", 2, cut, more, false},
		{"a drawn out one", 2, long, more, false},
		{"an empty one", 2, empty, more, false},
		{"one that is an advertisement", 2, tc, more, false},
		{"a cut one of another Origin", 2, otherCut, more, false},
	})
}

// Of a hello's message Type, Origin and Body count alone.
func TestPromise13OtherFieldsOfHellosDoNotCount(t *testing.T) {
	m := helloFrom(2, mprNeighbor(1, 40), symNeighbor(6, 30))
	want, _ := checkHearing(t, hearer(), 2, 20, m)
	for _, seq := range []int{0, 9, 65535} {
		for _, hopLimit := range []int{0, 1, 2, 255} {
			for _, hops := range []int{0, 1, 255} {
				m.Seq, m.HopLimit, m.Hops = seq, hopLimit, hops
				if got, b := checkHearing(t, hearer(), 2, 20, m); !sameRouter(got, want) || len(b) != 0 {
					t.Errorf("%v: %v, %q", m, got, b)
				}
			}
		}
	}
}

func TestPromise13AdvertisementsByHand(t *testing.T) {
	mark := func(origin, seq, value int) impl.Tuple {
		return impl.Tuple{Key: 65536*origin + seq, Until: 40, Value: value}
	}
	taken := func(r *impl.Router) {
		r.Topology = impl.Topology{Sources: []impl.Source{{Addr: 6, Ansn: 8, Until: 25}}, Edges: []impl.Tuple{{Key: 601, Until: 25, Value: 5}, {Key: 607, Until: 25, Value: 5}}}
	}
	edges := edgesTo(1, 7)
	stale := tcFrom(6, 4)
	stale.Body = tcBytes(impl.Tc{Ansn: 6, Valid: 15, List: edges})
	with := func(hopLimit, hops int) impl.Message {
		m := tcFrom(6, 4, edges...)
		m.HopLimit, m.Hops = hopLimit, hops
		return m
	}
	unsent := func(r *impl.Router) {
		r.Dups = append(r.Dups, mark(6, 4, 0))
		taken(r)
	}
	sent := func(r *impl.Router) {
		r.Dups = append(r.Dups, mark(6, 4, 1))
		taken(r)
	}
	checkHearCases(t, hearer, []hearCase{
		{"a new one from one that has chosen us", 2, tcFrom(6, 4, edges...), sent, true},
		{"a new one from one that has not", 3, tcFrom(6, 4, edges...), unsent, false},
		{"a new one from one that is heard alone", 4, tcFrom(6, 4, edges...), nil, false},
		{"a new one from one that is lost", 5, tcFrom(6, 4, edges...), nil, false},
		{"a new one from one that is no neighbor", 8, tcFrom(6, 4, edges...), nil, false},
		{"one of our own", 2, tcFrom(1, 4, edges...), nil, false},
		{"one of our own from one that has not chosen us", 3, tcFrom(1, 4, edges...), nil, false},
		{"one of its sender", 2, tcFrom(2, 4, edgesTo(6)...), func(r *impl.Router) {
			r.Dups = append([]impl.Tuple{mark(2, 4, 1)}, r.Dups...)
			r.Topology.Sources = append([]impl.Source{{Addr: 2, Ansn: 8, Until: 25}}, r.Topology.Sources...)
			r.Topology.Edges = append([]impl.Tuple{{Key: 206, Until: 25, Value: 5}}, r.Topology.Edges...)
		}, true},
		{"one that was seen, from one that has chosen us", 2, tcFrom(6, 1, edges...), func(r *impl.Router) { r.Dups[0] = mark(6, 1, 1) }, true},
		{"one that was seen, from one that has not", 3, tcFrom(6, 1, edges...), nil, false},
		{"one that was passed on, from one that has chosen us", 2, tcFrom(6, 2, edges...), nil, false},
		{"one that was passed on, from one that has not", 3, tcFrom(6, 2, edges...), nil, false},
		{"one that was passed on long ago", 2, tcFrom(6, 3, edges...), func(r *impl.Router) {
			r.Dups[2] = mark(6, 3, 1)
			taken(r)
		}, true},
		{"one that was passed on long ago, from one that has not chosen us", 3, tcFrom(6, 3, edges...), func(r *impl.Router) {
			r.Dups[2] = mark(6, 3, 0)
			taken(r)
		}, false},
		{"a stale one: it is marked and passed on", 2, stale, func(r *impl.Router) { r.Dups = append(r.Dups, mark(6, 4, 1)) }, true},
		{"a stale one from one that has not chosen us", 3, stale, func(r *impl.Router) { r.Dups = append(r.Dups, mark(6, 4, 0)) }, false},
		{"one with HopLimit 2", 2, with(2, 0), sent, true},
		{"one with HopLimit 1", 2, with(1, 0), unsent, false},
		{"one with HopLimit 0", 2, with(0, 0), unsent, false},
		{"one with Hops 254", 2, with(255, 254), sent, true},
		{"one with Hops 255", 2, with(255, 255), unsent, false},
		{"one without edges", 2, tcFrom(6, 4), func(r *impl.Router) {
			r.Dups = append(r.Dups, mark(6, 4, 1))
			r.Topology = impl.Topology{Sources: []impl.Source{{Addr: 6, Ansn: 8, Until: 25}}}
		}, true},
	})
}

func TestPromise13AdvertisementsThatAreNone(t *testing.T) {
	more := func(r *impl.Router) { r.Errors++ }
	with := func(origin, seq int, body string) impl.Message {
		m := tcFrom(origin, seq)
		m.Body = body
		return m
	}
	right := tcFrom(6, 4, edgesTo(7)...).Body
	checkHearCases(t, hearer, []hearCase{
		{"a cut one", 2, with(6, 4, right[:len(right)-1]), more, false},
		{"a drawn out one", 2, with(6, 4, right+"\x00"), more, false},
		{"an empty one", 2, with(6, 4, ""), more, false},
		{"one that is a hello", 2, with(6, 4, helloFrom(2, symNeighbor(1, 5)).Body), more, false},
		{"one from one that has not chosen us", 3, with(6, 4, "zz"), more, false},
		{"one that was seen", 2, with(6, 1, "zz"), more, false},
		{"one that was passed on", 2, with(6, 2, "zz"), more, false},
		{"one of our own", 2, with(1, 4, "zz"), nil, false},
		{"one from one that is heard alone", 4, with(6, 4, "zz"), nil, false},
		{"one from one that is lost", 5, with(6, 4, "zz"), nil, false},
		{"one from one that is no neighbor", 8, with(6, 4, "zz"), nil, false},
	})
}

// A selector counts as long as its time is above now, a link as long as both of its times are.
func TestPromise13TimesOfSelectorsLinksAndMarks(t *testing.T) {
	for until := 9; until <= 12; until++ {
		r := hearer()
		r.Selectors[0].Until = until
		if _, b := checkHearing(t, r, 2, 20, tcFrom(6, 4)); (len(b) > 0) != (until > 10) {
			t.Errorf("a selector until %d: passed on %q", until, b)
		}
		r = hearer()
		r.Dups[1].Until = until
		if x, b := checkHearing(t, r, 2, 20, tcFrom(6, 2)); (len(b) > 0) != (until <= 10) || (x.Topology.Sources[0].Ansn == 8) != (until <= 10) {
			t.Errorf("a mark until %d: passed on %q, topology %v", until, b, x.Topology)
		}
		for sym := 9; sym <= 12; sym++ {
			r = hearer()
			r.Links[0].Heard, r.Links[0].Sym = until, sym
			if x, b := checkHearing(t, r, 2, 20, tcFrom(6, 4)); (len(b) > 0) != (until > 10 && sym > 10) || (len(x.Dups) > 3) != (until > 10 && sym > 10) {
				t.Errorf("a link until %d, %d: passed on %q, marks %v", until, sym, b, x.Dups)
			}
		}
	}
}

func TestPromise13SelectorsWithoutRoom(t *testing.T) {
	r := hearer()
	r.Selectors = fullSet()
	x, _ := checkHearing(t, r, 4, 20, helloFrom(4, mprNeighbor(1, 40), symNeighbor(6, 30)))
	if !slices.Equal(x.Selectors, fullSet()) || x.Errors != r.Errors || len(x.Two) != 3 || x.Links[2].Out != 40 {
		t.Error("one more without room:", x)
	}
	if x, _ := checkHearing(t, r, 4, 20, helloFrom(4, symNeighbor(1, 40))); !slices.Equal(x.Selectors, fullSet()) {
		t.Error("one that is not there goes:", x.Selectors)
	}
	want := fullSet()
	want[1] = impl.Tuple{Key: 3, Until: 18}
	if x, _ := checkHearing(t, r, 3, 20, helloFrom(3, mprNeighbor(1, 40))); !slices.Equal(x.Selectors, want) {
		t.Error("one that is there:", x.Selectors)
	}
	if x, _ := checkHearing(t, r, 3, 20, helloFrom(3)); !slices.Equal(x.Selectors, append(want[:1], want[2:]...)) {
		t.Error("one that goes:", x.Selectors)
	}
	r.Selectors = fullSet()[:maxSet-1]
	if x, _ := checkHearing(t, r, 4, 20, helloFrom(4, mprNeighbor(1, 40))); len(x.Selectors) != maxSet || x.Selectors[2] != (impl.Tuple{Key: 4, Until: 18}) {
		t.Error("the last one that has room:", x.Selectors)
	}
}

func TestPromise13MarksWithoutRoom(t *testing.T) {
	r := hearer()
	r.Dups = fullMarks()
	for i := range r.Dups {
		r.Dups[i].Until = 30
	}
	for _, from := range []int{2, 3} {
		x, b := checkHearing(t, r, from, 20, tcFrom(6, 1, edgesTo(7)...))
		if !sameRouter(x, oneMoreError(r)) || len(b) != 0 {
			t.Errorf("one more without room, from %d: %v, %q", from, x, b)
		}
	}
	// Number 0 of 6 was seen, number 2 was passed on.
	r.Dups[40].Value, r.Dups[41].Value = 0, 1
	x, b := checkHearing(t, r, 2, 20, tcFrom(6, 0, edgesTo(7)...))
	if len(b) == 0 || x.Errors != r.Errors || x.Dups[40] != (impl.Tuple{Key: 6 * 65536, Until: 40, Value: 1}) || !sameTopology(x.Topology, r.Topology) {
		t.Errorf("one that is there: %v, %q", x, b)
	}
	if x, b := checkHearing(t, r, 3, 20, tcFrom(6, 0, edgesTo(7)...)); !sameRouter(x, r) || len(b) != 0 {
		t.Errorf("one that is there, from one that has not chosen us: %v, %q", x, b)
	}
	if x, b := checkHearing(t, r, 2, 20, tcFrom(6, 2, edgesTo(7)...)); !sameRouter(x, r) || len(b) != 0 {
		t.Errorf("one that was passed on: %v, %q", x, b)
	}
	// A mark that is over makes no room for others until a tick, but is taken anew itself.
	r.Dups[40].Until = 10
	if x, b := checkHearing(t, r, 2, 20, tcFrom(6, 1, edgesTo(7)...)); !sameRouter(x, oneMoreError(r)) || len(b) != 0 {
		t.Errorf("one more beside one that is over: %v, %q", x, b)
	}
	if x, b := checkHearing(t, r, 3, 20, tcFrom(6, 0, edgesTo(7)...)); x.Errors != r.Errors || len(x.Topology.Edges) != 1 || x.Topology.Edges[0].Key != 607 || len(b) != 0 {
		t.Errorf("one that is over: %v, %q", x, b)
	}
	r.Dups = r.Dups[1:]
	if x, b := checkHearing(t, r, 2, 20, tcFrom(6, 1, edgesTo(7)...)); len(x.Dups) != maxSet || len(b) == 0 || x.Errors != r.Errors {
		t.Errorf("the last one that has room: %v, %q", x, b)
	}
}

// What a message tells counts for those behind it, and not for those ahead of it.
func TestPromise13OrderOfMessagesInAPacket(t *testing.T) {
	new4 := helloFrom(4, mprNeighbor(1, 40))
	lost2 := helloFrom(2, impl.Neighbor{Addr: 1, Metric: 40})
	dropped2 := helloFrom(2, symNeighbor(1, 40))
	tc := tcFrom(6, 4, edgesTo(7)...)
	broken := tc
	broken.Body = "zz"
	for _, c := range []struct {
		what                  string
		from                  int
		list                  []impl.Message
		passed, marks, errors int
	}{
		{"a hello that makes symmetric, ahead", 4, []impl.Message{new4, tc}, 1, 4, 4},
		{"a hello that makes symmetric, behind", 4, []impl.Message{tc, new4}, 0, 3, 4},
		{"a hello that makes symmetric, between", 4, []impl.Message{tc, new4, tc}, 1, 4, 4},
		{"a hello that has lost us, ahead", 2, []impl.Message{lost2, tc}, 0, 3, 4},
		{"a hello that has lost us, behind", 2, []impl.Message{tc, lost2}, 1, 4, 4},
		{"a hello that chooses us no more, ahead", 2, []impl.Message{dropped2, tc}, 0, 4, 4},
		{"a hello that chooses us no more, behind", 2, []impl.Message{tc, dropped2}, 1, 4, 4},
		{"an advertisement twice", 2, []impl.Message{tc, tc}, 1, 4, 4},
		{"seen, then chosen, then passed on", 3, []impl.Message{tc, helloFrom(3, mprNeighbor(1, 40)), tc, tc}, 1, 4, 4},
		{"no advertisement, then one that is new", 2, []impl.Message{broken, tc}, 1, 4, 5},
		{"no advertisement, ahead of a hello that makes symmetric", 4, []impl.Message{broken, new4}, 0, 3, 4},
		{"no advertisement, behind a hello that makes symmetric", 4, []impl.Message{new4, broken}, 0, 3, 5},
		{"hellos of others between", 2, []impl.Message{helloFrom(3), tc, helloFrom(1), tcFrom(6, 5), helloFrom(8), tcFrom(6, 2)}, 2, 5, 7},
		{"our own ones between", 2, []impl.Message{tcFrom(1, 4), tc, tcFrom(1, 5), tcFrom(1, 6)}, 1, 4, 4},
		{"six that are passed on", 2, []impl.Message{tcFrom(8, 4), tcFrom(7, 4), tcFrom(6, 4), tcFrom(5, 4), tcFrom(4, 4), tcFrom(2, 4)}, 6, 9, 4},
		{"six that are none", 2, []impl.Message{broken, broken, broken, broken, broken, broken}, 0, 3, 10},
	} {
		x, b := checkHearing(t, hearer(), c.from, 20, c.list...)
		passed := 0
		if len(b) > 0 {
			passed = int(b[1])
		}
		if passed != c.passed || len(x.Dups) != c.marks || x.Errors != c.errors {
			t.Errorf("%s: %d passed on, %d marks, %d errors", c.what, passed, len(x.Dups), x.Errors)
		}
	}
}

// What is passed on stands in the order in which it came.
func TestPromise13OrderOfWhatIsPassedOn(t *testing.T) {
	list := []impl.Message{tcFrom(8, 4), helloFrom(2, mprNeighbor(1, 4)), tcFrom(5, 65535, edgesTo(1, 2)...), tcFrom(6, 2), tcFrom(8, 3), tcFrom(4, 0)}
	_, b := checkHearing(t, hearer(), 2, 20, list...)
	got, code := impl.DecodePacket(b)
	if code != impl.OK || len(got) != 4 {
		t.Fatalf("passed on %q", b)
	}
	for i, m := range []impl.Message{list[0], list[2], list[4], list[5]} {
		m.HopLimit, m.Hops = 8, 3
		if got[i] != m {
			t.Errorf("passed on at %d: %v, not %v", i, got[i], m)
		}
	}
}

// In the order of a packet, too, the newer of two numbers stays.
func TestPromise13NumbersWithinAPacket(t *testing.T) {
	for _, c := range []struct{ first, then, want int }{{8, 9, 9}, {9, 8, 9}, {8, 8, 8}, {6, 7, 7}, {7, 6, 7}, {6, 5, 7}} {
		a, b := tcFrom(6, 4), tcFrom(6, 5)
		a.Body, b.Body = tcBytes(impl.Tc{Ansn: c.first, Valid: 15, List: edgesTo(3)}), tcBytes(impl.Tc{Ansn: c.then, Valid: 15, List: edgesTo(4)})
		x, _ := checkHearing(t, hearer(), 2, 20, a, b)
		if got := x.Topology.Sources[0].Ansn; got != c.want || len(x.Dups) != 5 {
			t.Errorf("numbers %d and %d: %d, marks %v", c.first, c.then, got, x.Dups)
		}
	}
}

func TestPromise13BytesThatAreNoPacket(t *testing.T) {
	list := []impl.Message{helloFrom(2, mprNeighbor(1, 40)), tcFrom(6, 4, edgesTo(7)...)}
	right := packetBytes(list)
	for _, r := range []impl.Router{{Addr: 1}, hearer(), fullRouter(1), {Addr: 1, Now: maxTick, Errors: maxErrors - 1}, {Addr: 1, Errors: maxErrors}} {
		checkNoPacketHeard(t, r, 2, 5, nil)
		checkNoPacketHeard(t, r, 2, 5, []byte{})
		for n := range len(right) {
			checkNoPacketHeard(t, r, 2, 5, []byte(right[:n]))
			checkNoPacketHeard(t, r, 2, 5, []byte(right[n+1:]))
		}
		for _, more := range []string{"\x00", "x", right, packetBytes(list[:1]), messageBytes(list[1])} {
			checkNoPacketHeard(t, r, 2, 5, []byte(right+more))
			checkNoPacketHeard(t, r, 2, 5, []byte(more+right))
		}
		for n := range 256 {
			b := []byte(right)
			b[0] = byte(n)
			if n != 0 {
				checkNoPacketHeard(t, r, 2, 5, b)
			}
			b = []byte(right)
			b[1] = byte(n)
			if n != 2 {
				checkNoPacketHeard(t, r, 2, 5, b)
			}
		}
		wrong := list[1]
		wrong.Origin = 9
		checkNoPacketHeard(t, r, 2, 5, []byte(packetBytes([]impl.Message{list[0], wrong})))
		checkNoPacketHeard(t, r, 2, 5, []byte(packetBytes([]impl.Message{wrong, list[0]})))
		checkNoPacketHeard(t, r, 2, 5, make([]byte, impl.MaxText))
		checkNoPacketHeard(t, r, 8, 256, []byte(right+string(make([]byte, impl.MaxText-len(right)))))
	}
}

func TestPromise13AnyBytes(t *testing.T) {
	d := &draws{134}
	right := packetBytes([]impl.Message{helloFrom(2, mprNeighbor(1, 40)), tcFrom(6, 4, edgesTo(7)...)})
	heard := 0
	for range 4000 {
		b := []byte(right)
		for range d.next(4) {
			b[d.next(len(b))] = byte(d.next(256))
		}
		if d.next(4) == 0 {
			b = []byte(d.text(d.next(40)))
		}
		if list, code := impl.DecodePacket(b); code == impl.OK {
			checkHearing(t, hearer(), 2, 20, list...)
			heard++
		} else {
			checkNoPacketHeard(t, hearer(), 2, 20, b)
		}
	}
	if heard < 400 || heard > 3600 {
		t.Error("too few or too many were packets to tell anything:", heard)
	}
}

// Errors stop at their greatest count, so that a router stays right.
func TestPromise13ErrorsAtTheirGreatest(t *testing.T) {
	for _, n := range []int{0, 1, maxErrors - 2, maxErrors - 1, maxErrors} {
		r := hearer()
		r.Errors = n
		checkNoPacketHeard(t, r, 2, 5, nil)
		for count := range 6 {
			list := slices.Repeat([]impl.Message{helloFrom(3)}, count+1)
			if x, _ := checkHearing(t, r, 2, 5, list...); x.Errors != min(n+count+1, maxErrors) {
				t.Errorf("%d errors behind %d: %d", count+1, n, x.Errors)
			}
		}
	}
}

func TestPromise13EdgesOfHearing(t *testing.T) {
	for _, r := range edgeRouters() {
		for _, from := range []int{1, 2, 7, 8} {
			if from == r.Addr {
				continue
			}
			for _, cost := range []int{1, 2, 255, 256} {
				us := []impl.Neighbor{mprNeighbor(r.Addr, 1+cost%3)}
				x, _ := checkHearing(t, r, from, cost, helloFrom(from, us...), tcFrom(1+(r.Addr+3)%8, 65535, edgesTo(1, 8)...), helloFrom(9-from))
				if got := linkAt(x.Links, from); got.In != cost || got.Heard != r.Now+8 {
					t.Errorf("heard by %d at %d from %d, cost %d: %v", r.Addr, r.Now, from, cost, got)
				}
			}
		}
	}
	for i, h := range edgeHellos() {
		r := []impl.Router{hearer(), fullRouter(1), {Addr: 1, Now: maxTick}}[i%3]
		m := helloFrom(2)
		m.Body = helloBytes(h)
		checkHearing(t, r, 2, 1+255*(i%2), m)
	}
	for i, tc := range edgeTcs() {
		r := []impl.Router{hearer(), hearer(), fullRouter(1)}[i%3]
		m := tcFrom(1+i%8, 65535*(i%2))
		m.Body = tcBytes(tc)
		checkHearing(t, r, 2, 20, m)
	}
}

// heardBy draws a message that a router may hear from one: mostly right, and often close to what it knows.
func (d *draws) heardBy(r impl.Router, from int) impl.Message {
	m := impl.Message{Type: 1 + d.next(2), Origin: from, Seq: d.next(8), HopLimit: []int{0, 1, 2, 255}[d.next(4)], Hops: []int{0, 0, 254, 255}[d.next(4)]}
	if m.Type == impl.MeTc || d.next(8) == 0 {
		m.Origin = 1 + d.next(8)
	}
	h := d.hello()
	h.List = slices.DeleteFunc(h.List, func(x impl.Neighbor) bool { return x.Addr > r.Addr && d.next(2) == 0 })
	m.Body = helloBytes(h)
	if m.Type == impl.MeTc {
		m.Body = tcBytes(d.tc())
	}
	if d.next(10) == 0 {
		m.Body = m.Body[:d.next(len(m.Body))]
	}
	return m
}

func TestPromise13DrawnRoutersHear(t *testing.T) {
	d := &draws{135}
	var passed, refused, errors, heard int
	for range 6000 {
		r := d.router()
		from := 1 + (r.Addr+d.next(7))%8
		var list []impl.Message
		for range 1 + d.next(6) {
			list = append(list, d.heardBy(r, from))
		}
		x, b := checkHearing(t, r, from, 1+d.next(256), list...)
		switch {
		case len(b) > 0:
			passed++
		case x.Errors > r.Errors:
			errors++
		case sameRouter(x, r):
			refused++
		default:
			heard++
		}
		checkTick(t, x)
	}
	for _, n := range []int{passed, refused, errors, heard} {
		if n < 200 {
			t.Error("too few of one kind to tell anything:", passed, refused, errors, heard)
		}
	}
}

// A router lives for long, hears whatever comes, and stays right.
func TestPromise13ManyPacketsOneAfterTheOther(t *testing.T) {
	d := &draws{136}
	for addr := 1; addr <= 8; addr++ {
		r, _ := impl.NewRouter(addr, d.next(8), d.next(65536))
		for range 400 {
			r, _ = checkTick(t, r)
			for range d.next(5) {
				from := 1 + (addr+d.next(7))%8
				if d.next(12) == 0 {
					b := []byte(d.text(d.next(30)))
					checkNoPacketHeard(t, r, from, 5, b)
					r, _, _ = impl.RouterHear(r, from, 5, b)
					continue
				}
				r, _ = checkHearing(t, r, from, 1+d.next(256), d.heardBy(r, from), d.heardBy(r, from))
			}
		}
		checkRouter(t, r)
	}
}
