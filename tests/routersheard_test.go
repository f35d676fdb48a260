package tests

import (
	"slices"
	"testing"

	"loop.example/g00419/impl"
)

// A band is routers with addresses 1, 2 and so on that hear one another's packets: what is sent at a tick arrives ahead
// of the next one. costs has what the way from one (100 times) to another (once) costs.
type band struct {
	routers []impl.Router
	costs   map[int]int
	silent  int
	sent    [][]byte
	from    []int
}

func bandOf(n int, costs map[int]int) *band {
	b := &band{costs: costs}
	for addr := 1; addr <= n; addr++ {
		r, _ := impl.NewRouter(addr, 3, 65530)
		b.routers = append(b.routers, r)
	}
	return b
}

// send takes nothing of the silent one.
func (b *band) send(from int, packet []byte) {
	if len(packet) > 0 && from != b.silent {
		b.sent, b.from = append(b.sent, packet), append(b.from, from)
	}
}

// tick lets each router hear what was sent, in its order, and then have its own tick, held against chapter 13's words.
func (b *band) tick(t *testing.T) {
	t.Helper()
	sent, from := b.sent, b.from
	b.sent, b.from = nil, nil
	for i, packet := range sent {
		list, code := impl.DecodePacket(packet)
		if code != impl.OK {
			t.Fatalf("%d sent %q, which is no packet", from[i], packet)
		}
		for j := range b.routers {
			if cost := b.costs[100*from[i]+j+1]; cost > 0 {
				x, out := checkHearing(t, b.routers[j], from[i], cost, list...)
				b.routers[j] = x
				b.send(j+1, out)
			}
		}
	}
	for j := range b.routers {
		x, out := checkTick(t, b.routers[j])
		checkRouter(t, x)
		b.routers[j] = x
		b.send(j+1, out)
	}
}

func (b *band) ticks(t *testing.T, n int) {
	t.Helper()
	for range n {
		b.tick(t)
	}
}

func (b *band) checkTexts(t *testing.T, want ...[]string) {
	t.Helper()
	for i, r := range b.routers {
		if lines, code := impl.RouterText(r); !slices.Equal(lines, want[i]) || code != impl.OK {
			t.Errorf("%d at %d: %q, %d, not %q", r.Addr, r.Now, lines, code, want[i])
		}
	}
}

func (b *band) numbers() []int {
	var list []int
	for _, r := range b.routers {
		list = append(list, r.Ansn)
	}
	return list
}

func (b *band) errors() int {
	n := 0
	for _, r := range b.routers {
		n += r.Errors
	}
	return n
}

func TestPromise13TwoRoutersTickByTick(t *testing.T) {
	b := bandOf(2, map[int]int{102: 4, 201: 6})
	for _, want := range [][][]string{
		{nil, nil},
		{nil, {"1 heard 4 0"}},
		{{"2 sym 6 4", "2 by 2 cost 4 hops 1"}, {"1 heard 4 0"}},
		{{"2 sym 6 4", "2 by 2 cost 4 hops 1"}, {"1 sym 4 6", "1 by 1 cost 6 hops 1"}},
	} {
		b.tick(t)
		b.checkTexts(t, want...)
	}
	one, two := b.routers[0], b.routers[1]
	if one.Links[0] != (impl.Link{Addr: 2, Heard: 8, Sym: 8, In: 6, Out: 4, Will: 3}) || two.Links[0] != (impl.Link{Addr: 1, Heard: 9, Sym: 9, In: 4, Out: 6, Will: 3}) {
		t.Error("links at 4:", one.Links, two.Links)
	}
	// 2 sent a hello as number 65530 and an advertisement without edges as number 65531.
	if !slices.Equal(one.Dups, []impl.Tuple{{Key: 2*65536 + 65531, Until: 33}}) || !sameTopology(one.Topology, impl.Topology{Sources: []impl.Source{{Addr: 2, Until: 18}}}) {
		t.Error("what 1 has at 4:", one.Dups, one.Topology)
	}
	if one.Ansn != 1 || !slices.Equal(one.Last, []impl.Edge{{To: 2, Metric: 4}}) || two.Ansn != 0 || len(two.Last) != 0 {
		t.Error("advertisements at 4:", one, two)
	}
	b.ticks(t, 60)
	b.checkTexts(t, []string{"2 sym 6 4", "2 by 2 cost 4 hops 1"}, []string{"1 sym 4 6", "1 by 1 cost 6 hops 1"})
	if !slices.Equal(b.numbers(), []int{1, 1}) || b.errors() != 0 || len(b.routers[0].Two)+len(b.routers[0].Selectors) != 0 {
		t.Error("at 64:", b.routers)
	}
}

// Who is heard, but hears nobody, stays heard.
func TestPromise13TwoRoutersOneWay(t *testing.T) {
	b := bandOf(2, map[int]int{102: 4})
	b.ticks(t, 30)
	b.checkTexts(t, nil, []string{"1 heard 4 0"})
	if !slices.Equal(b.numbers(), []int{0, 0}) || len(b.routers[1].Dups) != 0 || len(b.routers[1].Topology.Sources) != 0 {
		t.Error("one way alone:", b.routers)
	}
}

func lineBand() *band {
	return bandOf(3, map[int]int{102: 1, 201: 2, 203: 3, 302: 4})
}

var lineTexts = [][]string{
	{"2 sym 2 1", "2 by 2 cost 1 hops 1", "3 by 2 cost 4 hops 2"},
	{"1 sym 1 2", "3 sym 4 3", "1 by 1 cost 2 hops 1", "3 by 3 cost 3 hops 1"},
	{"2 sym 3 4", "1 by 2 cost 6 hops 2", "2 by 2 cost 4 hops 1"},
}

// The one in the middle is chosen by both others, and passes their advertisements on.
func TestPromise13ThreeRoutersInALine(t *testing.T) {
	b := lineBand()
	b.ticks(t, 30)
	b.checkTexts(t, lineTexts...)
	one, two, three := b.routers[0], b.routers[1], b.routers[2]
	keys, _ := impl.SetKeys(two.Selectors)
	if !slices.Equal(keys, []int{1, 3}) || len(one.Selectors)+len(three.Selectors) != 0 {
		t.Error("who has chosen whom:", one.Selectors, two.Selectors, three.Selectors)
	}
	if x, _ := impl.TwoOf(one.Two, 2); !slices.Equal(x, []int{3}) || len(two.Two) != 0 || len(three.Two) != 1 {
		t.Error("two-hop neighbors:", one.Two, two.Two, three.Two)
	}
	if _, code := impl.SourceOf(one.Topology, 3); code != impl.OK {
		t.Error("1 has not heard of 3:", one.Topology)
	}
	if _, code := impl.SourceOf(three.Topology, 1); code != impl.OK {
		t.Error("3 has not heard of 1:", three.Topology)
	}
	passed := chosen(two.Dups, func(x impl.Tuple) bool { return x.Value == 1 })
	if len(passed) < 6 || len(chosen(one.Dups, func(x impl.Tuple) bool { return x.Value == 1 })) > 0 {
		t.Error("what was passed on:", one.Dups, two.Dups)
	}
	numbers := b.numbers()
	for range 100 {
		b.tick(t)
		if !slices.Equal(b.numbers(), numbers) {
			t.Fatal("what is advertised is the same, but has another number:", numbers, b.numbers())
		}
		b.checkTexts(t, lineTexts...)
	}
	if b.errors() != 0 {
		t.Error("errors:", b.routers)
	}
}

// One falls silent and comes back: what is advertised goes and comes, each time with the next number.
func TestPromise13ThreeRoutersOneFallsSilent(t *testing.T) {
	b := lineBand()
	b.ticks(t, 40)
	numbers := b.numbers()
	b.silent = 3
	b.ticks(t, 40)
	b.checkTexts(t, []string{"2 sym 2 1", "2 by 2 cost 1 hops 1"}, []string{"1 sym 1 2", "1 by 1 cost 2 hops 1"}, []string{"2 heard 3 4"})
	if got := b.numbers(); got[0] != numbers[0] || got[1] != numbers[1]+1 || got[2] != numbers[2]+1 {
		t.Error("numbers behind the silence:", numbers, got)
	}
	if len(b.routers[1].Selectors) != 0 || len(b.routers[0].Two) != 0 {
		t.Error("1 and 2 behind the silence:", b.routers[0], b.routers[1])
	}
	b.silent = 0
	b.ticks(t, 40)
	b.checkTexts(t, lineTexts...)
	if got := b.numbers(); got[0] != numbers[0] || got[1] != numbers[1]+2 || got[2] != numbers[2]+2 {
		t.Error("numbers at its coming back:", numbers, got)
	}
}

// Where all hear all nobody is chosen, and nothing is passed on.
func TestPromise13ThreeRoutersInARing(t *testing.T) {
	b := bandOf(3, map[int]int{102: 1, 201: 1, 103: 9, 301: 9, 203: 2, 302: 2})
	b.ticks(t, 40)
	b.checkTexts(t,
		[]string{"2 sym 1 1", "3 sym 9 9", "2 by 2 cost 1 hops 1", "3 by 2 cost 3 hops 2"},
		[]string{"1 sym 1 1", "3 sym 2 2", "1 by 1 cost 1 hops 1", "3 by 3 cost 2 hops 1"},
		[]string{"1 sym 9 9", "2 sym 2 2", "1 by 2 cost 3 hops 2", "2 by 2 cost 2 hops 1"},
	)
	for _, r := range b.routers {
		if len(r.Selectors) != 0 || len(chosen(r.Dups, func(x impl.Tuple) bool { return x.Value == 1 })) != 0 || r.Errors != 0 {
			t.Error("in a ring:", r)
		}
	}
}

// Bytes that are no packet, heard between all else, change nothing but counts of errors.
func TestPromise13RoutersAmongBytesThatAreNoPacket(t *testing.T) {
	d := &draws{137}
	quiet, noisy := lineBand(), lineBand()
	count := 0
	for range 60 {
		quiet.tick(t)
		for i, r := range noisy.routers {
			packet, _ := impl.EncodePacket([]impl.Message{tcFrom(1+d.next(8), d.next(99))})
			packet = packet[:d.next(len(packet))]
			x, out, code := impl.RouterHear(r, 1+(r.Addr+d.next(7))%8, 1+d.next(256), packet)
			if code != impl.ErrForm || len(out) != 0 {
				t.Fatalf("RouterHear(%q) = %q, %d", packet, out, code)
			}
			noisy.routers[i] = x
			count++
		}
		noisy.tick(t)
		for i, r := range noisy.routers {
			if r.Errors = 0; !sameRouter(r, quiet.routers[i]) {
				t.Fatalf("among bytes that are no packet: %v, not %v", r, quiet.routers[i])
			}
		}
	}
	if noisy.errors() != count || quiet.errors() != 0 {
		t.Error("errors:", noisy.errors(), count)
	}
}

// The most routers that there can be: all eight hear all, or stand in a line.
func TestPromise13EightRouters(t *testing.T) {
	all, line := map[int]int{}, map[int]int{}
	for from := 1; from <= 8; from++ {
		for to := 1; to <= 8; to++ {
			if from != to {
				all[100*from+to] = 1 + (from*to)%7
			}
			if from-to == 1 || to-from == 1 {
				line[100*from+to] = 3
			}
		}
	}
	for _, costs := range []map[int]int{all, line} {
		b := bandOf(8, costs)
		b.ticks(t, 60)
		for _, r := range b.routers {
			if routes, code := impl.RouterRoutes(r); len(routes) != 7 || code != impl.OK {
				t.Errorf("%d has routes %v, %d", r.Addr, routes, code)
			}
		}
	}
}
