package tests

import (
	"slices"
	"strconv"
	"testing"

	"loop.example/g00419/impl"
)

func plainTopology() impl.Topology {
	return impl.Topology{
		Sources: []impl.Source{{Addr: 2, Ansn: 65535, Until: 27}, {Addr: 3, Ansn: 7, Until: 25}, {Addr: 5, Ansn: 0, Until: 40}, {Addr: 7, Ansn: 32768, Until: 25}},
		Edges: []impl.Tuple{
			{Key: 203, Until: 27, Value: 1},
			{Key: 301, Until: 25, Value: 2},
			{Key: 304, Until: 25, Value: 6},
			{Key: 703, Until: 25, Value: 9},
			{Key: 708, Until: 25, Value: 258},
		},
	}
}

// fullTopology has all sources and all edges that there can be.
func fullTopology() impl.Topology {
	x := impl.Topology{Edges: fullTwo()}
	for addr := 1; addr <= 8; addr++ {
		x.Sources = append(x.Sources, impl.Source{Addr: addr, Ansn: 8000 * addr, Until: 10 + addr})
	}
	return x
}

// edgeTopology has the least and the greatest of all that a source and an edge may have.
func edgeTopology() impl.Topology {
	return impl.Topology{
		Sources: []impl.Source{{Addr: 1}, {Addr: 2, Ansn: 65535, Until: maxTime}, {Addr: 8, Ansn: 65535, Until: 1}},
		Edges:   []impl.Tuple{{Key: 102, Value: 1}, {Key: 108, Until: maxTime, Value: maxTime}, {Key: 801, Until: maxTime, Value: 1}, {Key: 807, Value: maxTime}},
	}
}

// loneTopology has sources alone.
func loneTopology(addrs ...int) impl.Topology {
	var x impl.Topology
	for _, addr := range addrs {
		x.Sources = append(x.Sources, impl.Source{Addr: addr, Ansn: addr, Until: 20})
	}
	return x
}

func (d *draws) topology() impl.Topology {
	var x impl.Topology
	of := 1 + d.next(3)
	for addr := 1; addr <= 8; addr++ {
		if d.next(3) > 0 {
			x.Sources = append(x.Sources, impl.Source{Addr: addr, Ansn: d.next(65536), Until: d.next(40)})
		}
	}
	for _, e := range fullTwo() {
		if _, there := sourceAt(x, e.Key/100); there && d.next(of) == 0 {
			x.Edges = append(x.Edges, impl.Tuple{Key: e.Key, Until: d.next(40), Value: 1 + d.next(maxTime)})
		}
	}
	return x
}

func rightTopologies() []impl.Topology {
	list := []impl.Topology{
		{}, {Sources: []impl.Source{}, Edges: []impl.Tuple{}}, plainTopology(), fullTopology(), edgeTopology(),
		loneTopology(1), loneTopology(8), loneTopology(1, 8), loneTopology(1, 2, 3, 4, 5, 6, 7, 8),
	}
	for _, e := range fullTwo() {
		x := loneTopology(e.Key / 100)
		x.Edges = []impl.Tuple{e}
		list = append(list, x)
	}
	d := &draws{101}
	for range 100 {
		list = append(list, d.topology())
	}
	return list
}

// sourceAt goes from the first source on.
func sourceAt(t impl.Topology, addr int) (impl.Source, bool) {
	for _, x := range t.Sources {
		if x.Addr == addr {
			return x, true
		}
	}
	return impl.Source{}, false
}

func sameTopology(a, b impl.Topology) bool {
	return slices.Equal(a.Sources, b.Sources) && slices.Equal(a.Edges, b.Edges)
}

// wantHearTc goes through all addresses, and all pairs of them, and asks of each what chapter 10 says of it.
func wantHearTc(t impl.Topology, from, now int, x impl.Tc) (impl.Topology, int) {
	if old, there := sourceAt(t, from); there && wantNewer(old.Ansn, x.Ansn) {
		return t, impl.ErrStale
	}
	var want impl.Topology
	for addr := 1; addr <= 8; addr++ {
		if addr == from {
			want.Sources = append(want.Sources, impl.Source{Addr: from, Ansn: x.Ansn, Until: now + x.Valid})
		} else if s, there := sourceAt(t, addr); there {
			want.Sources = append(want.Sources, s)
		}
		for to := 1; to <= 8; to++ {
			if addr != from {
				if e, there := twoAt(t.Edges, addr, to); there {
					want.Edges = append(want.Edges, e)
				}
				continue
			}
			for _, e := range x.List {
				if e.To == to && to != from {
					want.Edges = append(want.Edges, impl.Tuple{Key: 100*from + to, Until: now + x.Valid, Value: e.Metric})
				}
			}
		}
	}
	return want, impl.OK
}

func wantExpire(t impl.Topology, now int) impl.Topology {
	var want impl.Topology
	for _, s := range t.Sources {
		if s.Until > now {
			want.Sources = append(want.Sources, s)
		}
	}
	want.Edges = chosen(t.Edges, func(e impl.Tuple) bool {
		s, _ := sourceAt(t, e.Key/100)
		return s.Until > now
	})
	return want
}

func wantEdgesFrom(t impl.Topology, from int) []impl.Edge {
	var want []impl.Edge
	for to := 1; to <= 8; to++ {
		if e, there := twoAt(t.Edges, from, to); there {
			want = append(want, impl.Edge{To: to, Metric: e.Value})
		}
	}
	return want
}

func wantTopologyText(t impl.Topology) []string {
	var want []string
	for _, s := range t.Sources {
		line := strconv.Itoa(s.Addr) + " ansn " + strconv.Itoa(s.Ansn) + ":"
		for _, e := range t.Edges {
			if e.Key/100 == s.Addr {
				line += " " + strconv.Itoa(e.Key%100) + " " + strconv.Itoa(e.Value)
			}
		}
		want = append(want, line)
	}
	return want
}

// checkHearTc asks for all of the source and of others, and that what is answered is right.
func checkHearTc(t *testing.T, top impl.Topology, from, now int, x impl.Tc) impl.Topology {
	t.Helper()
	want, wantCode := wantHearTc(top, from, now, x)
	got, code := impl.HearTc(top, from, now, x)
	if !sameTopology(got, want) || code != wantCode {
		t.Fatalf("HearTc(%v, %d, %d, %v) = %v, %d, not %v, %d", top, from, now, x, got, code, want, wantCode)
	}
	if !impl.TopologyOK(got) {
		t.Fatalf("HearTc(%v, %d, %d, %v) made a topology that is not right: %v", top, from, now, x, got)
	}
	if code == impl.OK {
		edges := slices.DeleteFunc(slices.Clone(x.List), func(e impl.Edge) bool { return e.To == from })
		if list, code := impl.EdgesFrom(got, from); !slices.Equal(list, edges) || code != impl.OK {
			t.Fatalf("HearTc(%v, %d, %d, %v): EdgesFrom %v, %d, not %v", top, from, now, x, list, code, edges)
		}
	}
	return got
}

func checkTopologyExpire(t *testing.T, top impl.Topology, now int) {
	t.Helper()
	got, code := impl.TopologyExpire(top, now)
	if !sameTopology(got, wantExpire(top, now)) || code != impl.OK || !impl.TopologyOK(got) {
		t.Errorf("TopologyExpire(%v, %d) = %v, %d", top, now, got, code)
	}
}

func checkSource(t *testing.T, top impl.Topology, from int) {
	t.Helper()
	if got, code := impl.EdgesFrom(top, from); !slices.Equal(got, wantEdgesFrom(top, from)) || code != impl.OK {
		t.Errorf("EdgesFrom(%v, %d) = %v, %d", top, from, got, code)
	}
	want, there := sourceAt(top, from)
	wantCode := impl.ErrNone
	if there {
		wantCode = impl.OK
	}
	if got, code := impl.SourceOf(top, from); got != want || code != wantCode {
		t.Errorf("SourceOf(%v, %d) = %v, %d", top, from, got, code)
	}
}

// checkTopology holds what is asked of a right topology against what its lists say.
func checkTopology(t *testing.T, top impl.Topology) {
	t.Helper()
	if !impl.TopologyOK(top) {
		t.Errorf("TopologyOK(%v) = false", top)
	}
	for from := -1; from <= 10; from++ {
		checkSource(t, top, from)
	}
	if got, code := impl.TopologyText(top); !slices.Equal(got, wantTopologyText(top)) || code != impl.OK {
		t.Errorf("TopologyText(%v) = %q, %d", top, got, code)
	}
}

func TestPromise10AdvertisementsByHand(t *testing.T) {
	plain := plainTopology()
	two, three, five, seven := plain.Sources[0], plain.Sources[1], plain.Sources[2], plain.Sources[3]
	at := func(addr, ansn int) impl.Source { return impl.Source{Addr: addr, Ansn: ansn, Until: 26} }
	edge := func(key, metric int) impl.Tuple { return impl.Tuple{Key: key, Until: 26, Value: metric} }
	e := plain.Edges
	for _, c := range []struct {
		what string
		top  impl.Topology
		from int
		x    impl.Tc
		want impl.Topology
	}{
		{"a first source", impl.Topology{}, 4, impl.Tc{Ansn: 9, Valid: 15, List: edgesTo(1, 8)},
			impl.Topology{Sources: []impl.Source{at(4, 9)}, Edges: []impl.Tuple{edge(401, 5), edge(408, 5)}}},
		{"a first source without edges", impl.Topology{}, 4, impl.Tc{Ansn: 9, Valid: 15},
			impl.Topology{Sources: []impl.Source{at(4, 9)}}},
		{"a new source ahead of others", plain, 1, impl.Tc{Ansn: 9, Valid: 15, List: edgesTo(2)},
			impl.Topology{Sources: []impl.Source{at(1, 9), two, three, five, seven}, Edges: []impl.Tuple{edge(102, 5), e[0], e[1], e[2], e[3], e[4]}}},
		{"a new source between others", plain, 6, impl.Tc{Ansn: 9, Valid: 15, List: edgesTo(2)},
			impl.Topology{Sources: []impl.Source{two, three, five, at(6, 9), seven}, Edges: []impl.Tuple{e[0], e[1], e[2], edge(602, 5), e[3], e[4]}}},
		{"a new source behind others", plain, 8, impl.Tc{Ansn: 9, Valid: 15, List: edgesTo(2)},
			impl.Topology{Sources: []impl.Source{two, three, five, seven, at(8, 9)}, Edges: []impl.Tuple{e[0], e[1], e[2], e[3], e[4], edge(802, 5)}}},
		{"edges that go, stay and come", plain, 3, impl.Tc{Ansn: 8, Valid: 15, List: []impl.Edge{{To: 4, Metric: 6}, {To: 5, Metric: 3}}},
			impl.Topology{Sources: []impl.Source{two, at(3, 8), five, seven}, Edges: []impl.Tuple{e[0], edge(304, 6), edge(305, 3), e[3], e[4]}}},
		{"a number that is alike", plain, 3, impl.Tc{Ansn: 7, Valid: 15, List: []impl.Edge{{To: 8, Metric: 768}}},
			impl.Topology{Sources: []impl.Source{two, at(3, 7), five, seven}, Edges: []impl.Tuple{e[0], edge(308, 768), e[3], e[4]}}},
		{"a number that went round", plain, 2, impl.Tc{Ansn: 0, Valid: 15, List: edgesTo(1, 3)},
			impl.Topology{Sources: []impl.Source{at(2, 0), three, five, seven}, Edges: []impl.Tuple{edge(201, 5), edge(203, 5), e[1], e[2], e[3], e[4]}}},
		{"all edges of a source go", plain, 3, impl.Tc{Ansn: 8, Valid: 15},
			impl.Topology{Sources: []impl.Source{two, at(3, 8), five, seven}, Edges: []impl.Tuple{e[0], e[3], e[4]}}},
		{"a source that had none gets edges", plain, 5, impl.Tc{Ansn: 1, Valid: 15, List: edgesTo(1)},
			impl.Topology{Sources: []impl.Source{two, three, at(5, 1), seven}, Edges: []impl.Tuple{e[0], e[1], e[2], edge(501, 5), e[3], e[4]}}},
		{"an edge to its own source", plain, 7, impl.Tc{Ansn: 32769, Valid: 15, List: edgesTo(6, 7, 8)},
			impl.Topology{Sources: []impl.Source{two, three, five, at(7, 32769)}, Edges: []impl.Tuple{e[0], e[1], e[2], edge(706, 5), edge(708, 5)}}},
		{"an edge to its own source alone", plain, 7, impl.Tc{Ansn: 32769, Valid: 15, List: edgesTo(7)},
			impl.Topology{Sources: []impl.Source{two, three, five, at(7, 32769)}, Edges: []impl.Tuple{e[0], e[1], e[2]}}},
	} {
		if got, code := impl.HearTc(c.top, c.from, 11, c.x); !sameTopology(got, c.want) || code != impl.OK {
			t.Errorf("%s: %v, %d, not %v", c.what, got, code, c.want)
		}
	}
}

func TestPromise10NumbersByHand(t *testing.T) {
	for _, c := range []struct{ was, is, want int }{
		{0, 0, impl.OK}, {0, 1, impl.OK}, {1, 0, impl.ErrStale}, {65535, 65535, impl.OK},
		{65535, 0, impl.OK}, {0, 65535, impl.ErrStale}, {65535, 32766, impl.OK}, {32766, 65535, impl.ErrStale},
		{0, 32767, impl.OK}, {32767, 0, impl.ErrStale}, {0, 32769, impl.ErrStale}, {32769, 0, impl.OK},
		{0, 32768, impl.OK}, {32768, 0, impl.OK}, {32767, 65535, impl.OK}, {65535, 32767, impl.OK},
	} {
		top := plainTopology()
		top.Sources[1].Ansn = c.was
		got, code := impl.HearTc(top, 3, 11, impl.Tc{Ansn: c.is, Valid: 15, List: edgesTo(5)})
		if code != c.want || (code == impl.ErrStale) != sameTopology(got, top) {
			t.Errorf("number %d, heard of one with %d: %v, %d, not code %d", c.is, c.was, got, code, c.want)
		}
		checkHearTc(t, top, 3, 11, impl.Tc{Ansn: c.is, Valid: 15, List: edgesTo(5)})
	}
}

func TestPromise10EachNumber(t *testing.T) {
	for _, was := range []int{0, 1, 7, 32766, 32767, 32768, 32769, 65534, 65535} {
		top := impl.Topology{Sources: []impl.Source{{Addr: 3, Ansn: was, Until: 9}}, Edges: []impl.Tuple{{Key: 304, Until: 9, Value: 2}}}
		for is := range 65536 {
			checkHearTc(t, top, 3, 11, impl.Tc{Ansn: is, Valid: 15, List: edgesTo(5)})
		}
	}
}

// Each number behind the last one is taken, round and round; the one ahead of it is stale from then on.
func TestPromise10NumbersGoRound(t *testing.T) {
	top := impl.Topology{}
	for i := range 70000 {
		is := (60000 + i) % 65536
		x, code := impl.HearTc(top, 4, i, impl.Tc{Ansn: is, Valid: 15, List: edgesTo(1 + i%3)})
		if s, e := impl.SourceOf(x, 4); code != impl.OK || e != impl.OK || s != (impl.Source{Addr: 4, Ansn: is, Until: i + 15}) {
			t.Fatalf("number %d: %v, %d", is, x, code)
		}
		top = x
		if x, code = impl.HearTc(top, 4, i, impl.Tc{Ansn: (is + 65535) % 65536, Valid: 15}); code != impl.ErrStale || !sameTopology(x, top) {
			t.Fatalf("the number ahead of %d: %v, %d", is, x, code)
		}
	}
}

// Numbers are held against their own source's alone.
func TestPromise10NumbersOfOtherSources(t *testing.T) {
	top := impl.Topology{Sources: []impl.Source{{Addr: 1, Ansn: 500, Until: 9}, {Addr: 8, Ansn: 500, Until: 9}}}
	for from := 2; from <= 7; from++ {
		for _, ansn := range []int{0, 499, 500, 501, 40000, 65535} {
			if got := checkHearTc(t, top, from, 11, impl.Tc{Ansn: ansn, Valid: 15}); len(got.Sources) != 3 {
				t.Errorf("a first number %d of %d: %v", ansn, from, got)
			}
		}
	}
}

// A source whose time is over is there until it is expired: its number counts until then, and no longer.
func TestPromise10NumbersOfSourcesThatAreOver(t *testing.T) {
	top := plainTopology()
	for _, now := range []int{24, 25, 26, 1000, maxNow} {
		older := impl.Tc{Ansn: 6, Valid: 15, List: edgesTo(5)}
		if got, code := impl.HearTc(top, 3, now, older); code != impl.ErrStale || !sameTopology(got, top) {
			t.Errorf("an older number at %d: %v, %d", now, got, code)
		}
		left, _ := impl.TopologyExpire(top, now)
		wantCode := impl.OK
		if now < 25 {
			wantCode = impl.ErrStale
		}
		if got, code := impl.HearTc(left, 3, now, older); code != wantCode {
			t.Errorf("an older number at %d, all that is over being gone: %v, %d", now, got, code)
		}
		checkHearTc(t, left, 3, now, older)
	}
}

func TestPromise10EachChoiceOfEdges(t *testing.T) {
	for choice := range 1 << 8 {
		x := impl.Tc{Ansn: 65535, Valid: 15}
		for i := range 8 {
			if choice>>i&1 == 1 {
				x.List = append(x.List, impl.Edge{To: i + 1, Metric: 10*i + 1})
			}
		}
		for from := 1; from <= 8; from++ {
			for _, top := range []impl.Topology{{}, plainTopology(), fullTopology()} {
				checkHearTc(t, top, from, 10, x)
			}
		}
	}
}

func TestPromise10EdgesOfHearing(t *testing.T) {
	tops := []impl.Topology{{}, edgeTopology(), plainTopology(), fullTopology(), loneTopology(1, 8)}
	for i, x := range edgeTcs() {
		for _, from := range []int{1, 2, 7, 8} {
			for _, now := range []int{0, 1, maxNow - 1, maxNow} {
				checkHearTc(t, tops[i%len(tops)], from, now, x)
			}
		}
	}
	for _, valid := range exactValids() {
		for _, now := range []int{0, 9, maxNow} {
			top := checkHearTc(t, plainTopology(), 4, now, impl.Tc{Valid: valid, List: edgesTo(1, 8)})
			if s, code := impl.SourceOf(top, 4); s.Until != now+valid || code != impl.OK {
				t.Errorf("heard at %d for %d ticks: until %d, %d", now, valid, s.Until, code)
			}
		}
	}
}

// The most that there can be: all eight sources advertise all eight addresses.
func TestPromise10TheMostSourcesAndEdges(t *testing.T) {
	var top impl.Topology
	for _, from := range []int{5, 1, 8, 3, 2, 7, 4, 6, 1, 8, 5} {
		top = checkHearTc(t, top, from, 10, tcOf(risingEdges(8)...))
	}
	if len(top.Sources) != 8 || len(top.Edges) != mostTwo {
		t.Error("the most sources and edges:", len(top.Sources), len(top.Edges))
	}
	checkTopology(t, top)
}

func TestPromise10ExpireByHand(t *testing.T) {
	plain := plainTopology()
	s, e := plain.Sources, plain.Edges
	for _, c := range []struct {
		now  int
		want impl.Topology
	}{
		{0, plain},
		{24, plain},
		{25, impl.Topology{Sources: []impl.Source{s[0], s[2]}, Edges: e[:1]}},
		{26, impl.Topology{Sources: []impl.Source{s[0], s[2]}, Edges: e[:1]}},
		{27, impl.Topology{Sources: s[2:3]}},
		{39, impl.Topology{Sources: s[2:3]}},
		{40, impl.Topology{}},
		{41, impl.Topology{}},
	} {
		if got, code := impl.TopologyExpire(plain, c.now); !sameTopology(got, c.want) || code != impl.OK {
			t.Errorf("at %d: %v, %d, not %v", c.now, got, code, c.want)
		}
	}
}

// An edge goes just with its source, whatever its own time is.
func TestPromise10EdgesGoWithTheirSource(t *testing.T) {
	for own := 9; own <= 12; own++ {
		for until := 9; until <= 12; until++ {
			top := impl.Topology{
				Sources: []impl.Source{{Addr: 2, Until: until}, {Addr: 4, Until: 11}},
				Edges:   []impl.Tuple{{Key: 204, Until: own, Value: 1}, {Key: 402, Until: own, Value: 1}},
			}
			for now := 8; now <= 13; now++ {
				var keys []int
				if until > now {
					keys = append(keys, 204)
				}
				if now < 11 {
					keys = append(keys, 402)
				}
				got, code := impl.TopologyExpire(top, now)
				if left, _ := impl.SetKeys(got.Edges); !slices.Equal(left, keys) || code != impl.OK {
					t.Errorf("edges until %d of sources until %d and 11, at %d: %v, %d", own, until, now, got, code)
				}
			}
		}
	}
}

// What is advertised is kept till its time, and no longer.
func TestPromise10SourcesGoAtTheirTime(t *testing.T) {
	for _, valid := range exactValids() {
		for _, now := range []int{0, 7, maxNow} {
			top := checkHearTc(t, impl.Topology{}, 2, now, impl.Tc{Valid: valid, List: edgesTo(1, 5)})
			for _, at := range []int{now, now + valid - 1} {
				if got, code := impl.TopologyExpire(top, at); !sameTopology(got, top) || code != impl.OK {
					t.Errorf("heard at %d for %d ticks: at %d %v, %d", now, valid, at, got, code)
				}
			}
			if got, code := impl.TopologyExpire(top, now+valid); !sameTopology(got, impl.Topology{}) || code != impl.OK {
				t.Errorf("heard at %d for %d ticks: at its time %v, %d", now, valid, got, code)
			}
		}
	}
}

func TestPromise10AskedByHand(t *testing.T) {
	plain := plainTopology()
	want := []string{"2 ansn 65535: 3 1", "3 ansn 7: 1 2 4 6", "5 ansn 0:", "7 ansn 32768: 3 9 8 258"}
	if got, code := impl.TopologyText(plain); !slices.Equal(got, want) || code != impl.OK {
		t.Errorf("TopologyText: %q, %d", got, code)
	}
	for _, c := range []struct {
		from int
		want []impl.Edge
	}{{2, []impl.Edge{{To: 3, Metric: 1}}}, {3, []impl.Edge{{To: 1, Metric: 2}, {To: 4, Metric: 6}}}, {5, nil}, {7, []impl.Edge{{To: 3, Metric: 9}, {To: 8, Metric: 258}}}, {1, nil}, {8, nil}} {
		if got, code := impl.EdgesFrom(plain, c.from); !slices.Equal(got, c.want) || code != impl.OK {
			t.Errorf("EdgesFrom %d: %v, %d, not %v", c.from, got, code, c.want)
		}
	}
	for i, from := range []int{2, 3, 5, 7} {
		if got, code := impl.SourceOf(plain, from); got != plain.Sources[i] || code != impl.OK {
			t.Errorf("SourceOf %d: %v, %d", from, got, code)
		}
	}
	for _, from := range []int{1, 4, 6, 8} {
		if got, code := impl.SourceOf(plain, from); got != (impl.Source{}) || code != impl.ErrNone {
			t.Errorf("SourceOf %d: %v, %d", from, got, code)
		}
	}
	edge := edgeTopology()
	want = []string{"1 ansn 0: 2 1 8 1073741824", "2 ansn 65535:", "8 ansn 65535: 1 1 7 1073741824"}
	if got, code := impl.TopologyText(edge); !slices.Equal(got, want) || code != impl.OK {
		t.Errorf("TopologyText: %q, %d", got, code)
	}
}

func TestPromise10NoSourceAndNoEdge(t *testing.T) {
	for _, top := range []impl.Topology{{}, {Sources: []impl.Source{}}, {Edges: []impl.Tuple{}}} {
		checkTopology(t, top)
		checkTopologyExpire(t, top, 0)
		if got, code := impl.TopologyText(top); len(got) != 0 || code != impl.OK {
			t.Errorf("TopologyText(%v) = %q, %d", top, got, code)
		}
	}
}

func TestPromise10RightTopologiesAreAsked(t *testing.T) {
	for _, top := range rightTopologies() {
		checkTopology(t, top)
		for now := -1; now <= 42; now++ {
			checkTopologyExpire(t, top, now)
		}
		for _, now := range []int{maxNow, maxTime - 1, maxTime, maxTime + 1} {
			checkTopologyExpire(t, top, now)
		}
	}
}

func TestPromise10RightTopologiesHear(t *testing.T) {
	d := &draws{102}
	for _, top := range rightTopologies() {
		for from := 1; from <= 8; from++ {
			checkHearTc(t, top, from, d.next(maxNow+1), d.tc())
			checkHearTc(t, top, from, 10, impl.Tc{Ansn: 8000*from + d.next(3) - 1, Valid: 15, List: edgesTo(from)})
		}
	}
}

func TestPromise10ManyAdvertisementsOneAfterTheOther(t *testing.T) {
	d := &draws{103}
	var top impl.Topology
	var numbers [9]int
	stale := 0
	for now := range 5000 {
		from, x := 1+d.next(8), d.tc()
		numbers[from] = (numbers[from] + 65536 + d.next(9000) - 1500) % 65536
		x.Ansn, x.Valid = numbers[from], exactValids()[d.next(24)]
		top = checkHearTc(t, top, from, now, x)
		if s, _ := impl.SourceOf(top, from); s.Ansn != x.Ansn {
			stale++
			numbers[from] = s.Ansn
		}
		checkTopology(t, top)
		checkTopologyExpire(t, top, now+d.next(30))
		if d.next(3) == 0 {
			top, _ = impl.TopologyExpire(top, now)
		}
	}
	if stale < 100 || stale > 4000 {
		t.Error("too few or too many were stale to tell anything:", stale)
	}
}

func TestPromise10DrawnTopologiesAndAdvertisements(t *testing.T) {
	d := &draws{104}
	for range 5000 {
		top := d.topology()
		checkHearTc(t, top, 1+d.next(8), d.next(maxNow+1), d.tc())
		checkTopology(t, top)
		checkTopologyExpire(t, top, d.next(42)-1)
	}
}
