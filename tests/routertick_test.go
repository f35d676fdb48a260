package tests

import (
	"slices"
	"testing"

	"loop.example/g00419/impl"
)

// wantTicked goes by chapter 13's words: the time, what expires, what is due.
func wantTicked(r impl.Router) (impl.Router, []impl.Message) {
	if r.Now < maxTick {
		r.Now++
	}
	kept := func(x impl.Tuple) bool { return x.Until > r.Now }
	r.Links = slices.DeleteFunc(slices.Clone(r.Links), func(x impl.Link) bool { return x.Heard+helloHold <= r.Now })
	r.Two, r.Selectors, r.Dups = chosen(r.Two, kept), chosen(r.Selectors, kept), chosen(r.Dups, kept)
	r.Topology = wantExpire(r.Topology, r.Now)
	var out []impl.Message
	if (r.Now+r.Addr)%2 == 0 {
		out = append(out, impl.Message{Type: 1, Origin: r.Addr, Seq: r.Seq, HopLimit: 1, Body: helloBytes(wantHelloNow(r))})
		r.Seq = (r.Seq + 1) % 65536
	}
	if (r.Now+r.Addr)%5 == 0 {
		x, tc := wantTcNow(r)
		out = append(out, impl.Message{Type: 2, Origin: r.Addr, Seq: r.Seq, HopLimit: 255, Body: tcBytes(tc)})
		r = x
		r.Seq = (r.Seq + 1) % 65536
	}
	return r, out
}

// wantPacket is no bytes without a message.
func wantPacket(list []impl.Message) string {
	if len(list) == 0 {
		return ""
	}
	return packetBytes(list)
}

// checkTick answers the router behind the tick, and what it sends.
func checkTick(t *testing.T, r impl.Router) (impl.Router, []byte) {
	t.Helper()
	want, out := wantTicked(r)
	got, b, code := impl.RouterTick(r)
	if !sameRouter(got, want) || string(b) != wantPacket(out) || code != impl.OK {
		t.Fatalf("RouterTick(%v) = %v, %q, %d, not %v, %q", r, got, b, code, want, wantPacket(out))
	}
	if !impl.RouterOK(got) {
		t.Fatalf("RouterTick(%v) made a router that is not right: %v", r, got)
	}
	return got, b
}

// textsOf tells a packet's messages, and the texts of their bodies.
func textsOf(t *testing.T, b []byte) []string {
	t.Helper()
	if len(b) == 0 {
		return nil
	}
	list, code := impl.DecodePacket(b)
	if code != impl.OK {
		t.Fatalf("%q is no packet: %d", b, code)
	}
	var texts []string
	for _, m := range list {
		text, _ := impl.MessageText(m)
		if m.Type == impl.MeHello {
			h, _ := impl.DecodeHello(m.Body)
			body, _ := impl.HelloText(h)
			texts = append(texts, text+": "+body)
		} else {
			tc, _ := impl.DecodeTc(m.Body)
			body, _ := impl.TcText(tc)
			texts = append(texts, text+": "+body)
		}
	}
	return texts
}

// What is due at which tick, of each address: a hello each second one, an advertisement each fifth.
func TestPromise13WhatIsDueAtATick(t *testing.T) {
	for addr := 1; addr <= 8; addr++ {
		r, _ := impl.NewRouter(addr, 3, 65530)
		var count [4]int
		for now := 1; now <= 40; now++ {
			x, b := checkTick(t, r)
			texts := textsOf(t, b)
			hello, tc := (now+addr)%2 == 0, (now+addr)%5 == 0
			switch {
			case hello && tc:
				count[0]++
				if len(texts) != 2 || texts[0][:5] != "hello" || texts[1][:2] != "tc" || x.Seq != (r.Seq+2)%65536 {
					t.Errorf("%d at %d: %q, Seq %d", addr, now, texts, x.Seq)
				}
			case hello:
				count[1]++
				if len(texts) != 1 || texts[0][:5] != "hello" || x.Seq != (r.Seq+1)%65536 {
					t.Errorf("%d at %d: %q, Seq %d", addr, now, texts, x.Seq)
				}
			case tc:
				count[2]++
				if len(texts) != 1 || texts[0][:2] != "tc" || x.Seq != (r.Seq+1)%65536 {
					t.Errorf("%d at %d: %q, Seq %d", addr, now, texts, x.Seq)
				}
			default:
				count[3]++
				if len(b) != 0 || x.Seq != r.Seq {
					t.Errorf("%d at %d: %q, Seq %d", addr, now, texts, x.Seq)
				}
			}
			if x.Now != now {
				t.Errorf("%d at %d is at %d", addr, now, x.Now)
			}
			r = x
		}
		if count != [4]int{4, 16, 4, 16} {
			t.Errorf("%d: both, a hello, an advertisement and neither were due %v times", addr, count)
		}
	}
}

func TestPromise13TicksOfAPlainRouterByHand(t *testing.T) {
	r := plainRouter()
	for _, c := range []struct {
		want  []string
		lines []string
	}{
		{[]string{"hello 3 100 1 0 19: will 4 valid 6 2:sym:5:mpr 4:heard:256 5:sym:2:mpr 7:lost:1"},
			[]string{"2 sym 5 7", "4 heard 256 0", "5 sym 2 258", "7 lost 1 1", "2 by 2 cost 7 hops 1", "5 by 5 cost 258 hops 1", "6 by 2 cost 10 hops 2", "8 by 2 cost 268 hops 3"}},
		{[]string{"tc 3 101 255 0 10: ansn 10 valid 15 2:7 5:258"},
			[]string{"2 sym 5 7", "4 heard 256 0", "5 sym 2 258", "7 lost 1 1", "2 by 2 cost 7 hops 1", "5 by 5 cost 258 hops 1", "6 by 2 cost 10 hops 2", "8 by 2 cost 268 hops 3"}},
		{[]string{"hello 3 102 1 0 19: will 4 valid 6 2:sym:5:mpr 4:heard:256 5:sym:2:mpr 7:lost:1"}, nil},
		{nil, []string{"2 sym 5 7", "4 lost 256 0", "5 sym 2 258", "7 lost 1 1", "2 by 2 cost 7 hops 1", "5 by 5 cost 258 hops 1", "6 by 2 cost 10 hops 2", "8 by 2 cost 268 hops 3"}},
		{[]string{"hello 3 103 1 0 15: will 4 valid 6 2:sym:5:mpr 4:lost:256 5:lost:2"},
			[]string{"2 sym 5 7", "4 lost 256 0", "5 lost 2 258", "2 by 2 cost 7 hops 1", "6 by 2 cost 10 hops 2", "8 by 2 cost 268 hops 3"}},
		{nil, []string{"2 lost 5 7", "4 lost 256 0", "5 lost 2 258"}},
		{[]string{"hello 3 104 1 0 15: will 4 valid 6 2:lost:5 4:lost:256 5:lost:2", "tc 3 105 255 0 4: ansn 11 valid 15"},
			[]string{"2 lost 5 7", "4 lost 256 0", "5 lost 2 258"}},
	} {
		x, b := checkTick(t, r)
		if texts := textsOf(t, b); !slices.Equal(texts, c.want) {
			t.Errorf("at %d: %q, not %q", x.Now, texts, c.want)
		}
		if lines, code := impl.RouterText(x); c.lines != nil && !slices.Equal(lines, c.lines) || code != impl.OK {
			t.Errorf("at %d: %q, not %q", x.Now, lines, c.lines)
		}
		r = x
	}
	if r.Seq != 106 || r.Ansn != 11 || len(r.Last) != 0 || r.Errors != 4 {
		t.Error("behind these ticks", r)
	}
}

// What is kept until a time goes at the tick of that time, and is there at the one ahead of it.
func TestPromise13WhatExpiresAtATick(t *testing.T) {
	for _, until := range []int{1, 2, 20, 99999, maxTick} {
		r := impl.Router{
			Addr: 1, Now: until - 1,
			Links:     []impl.Link{{Addr: 2, Heard: max(0, until-6), In: 3, Out: 4}, {Addr: 3, Heard: max(0, until-6) + 1, In: 3, Out: 4}},
			Two:       []impl.Tuple{{Key: 203, Until: until}, {Key: 204, Until: until + 1, Value: 9}},
			Selectors: []impl.Tuple{{Key: 2, Until: until}, {Key: 3, Until: until + 1}},
			Dups:      []impl.Tuple{{Key: 2 * 65536, Until: until}, {Key: 3 * 65536, Until: until + 1, Value: 1}},
			Topology: impl.Topology{
				Sources: []impl.Source{{Addr: 2, Until: until}, {Addr: 3, Until: until + 1}},
				Edges:   []impl.Tuple{{Key: 204, Until: maxTime, Value: 1}, {Key: 304, Until: 0, Value: 1}},
			},
		}
		x, _ := checkTick(t, r)
		if until >= 6 && !slices.Equal(x.Links, r.Links[1:]) {
			t.Errorf("links at %d: %v", x.Now, x.Links)
		}
		if !slices.Equal(x.Two, r.Two[1:]) || !slices.Equal(x.Selectors, r.Selectors[1:]) || !slices.Equal(x.Dups, r.Dups[1:]) {
			t.Errorf("sets at %d: %v, %v, %v", x.Now, x.Two, x.Selectors, x.Dups)
		}
		if !slices.Equal(x.Topology.Sources, r.Topology.Sources[1:]) || !slices.Equal(x.Topology.Edges, r.Topology.Edges[1:]) {
			t.Errorf("topology at %d: %v", x.Now, x.Topology)
		}
		if until < maxTick {
			x, _ = checkTick(t, x)
			if len(x.Links) > 0 && until >= 6 || len(x.Two)+len(x.Selectors)+len(x.Dups)+len(x.Topology.Sources)+len(x.Topology.Edges) > 0 {
				t.Errorf("at %d there still is %v", x.Now, x)
			}
		}
	}
}

// What expires at a tick is told no more in what is due at it.
func TestPromise13WhatExpiresIsNotTold(t *testing.T) {
	r := impl.Router{Addr: 1, Now: 18, Links: []impl.Link{{Addr: 2, Heard: 13, In: 3, Out: 4}, {Addr: 3, Heard: 19, Sym: 19, In: 3, Out: 4, Will: 3}, {Addr: 4, Heard: 20, Sym: 20, In: 5, Out: 6, Will: 3}}}
	r.Two = []impl.Tuple{{Key: 407, Until: 20}, {Key: 408, Until: 19}}
	x, b := checkTick(t, r)
	if texts := textsOf(t, b); !slices.Equal(texts, []string{"hello 1 0 1 0 11: will 0 valid 6 3:lost:3 4:sym:5:mpr", "tc 1 1 255 0 7: ansn 1 valid 15 4:6"}) {
		t.Errorf("at %d: %q", x.Now, texts)
	}
	r.Two = r.Two[1:]
	x, b = checkTick(t, r)
	if texts := textsOf(t, b); len(texts) != 2 || texts[0] != "hello 1 0 1 0 11: will 0 valid 6 3:lost:3 4:sym:5" {
		t.Errorf("without a two-hop neighbor, at %d: %q", x.Now, texts)
	}
}

func TestPromise13NumbersOfMessagesGoRound(t *testing.T) {
	for addr := 1; addr <= 8; addr++ {
		for _, seq := range []int{65533, 65534, 65535, 0} {
			r, _ := impl.NewRouter(addr, 3, seq)
			want := seq
			for range 40 {
				x, b := checkTick(t, r)
				list, _ := impl.DecodePacket(b)
				for _, m := range list {
					if m.Seq != want || m.Origin != addr || m.Hops != 0 {
						t.Errorf("%v, not Seq %d", m, want)
					}
					want = (want + 1) % 65536
				}
				r = x
			}
			if r.Seq != want || (want-seq+65536)%65536 != 28 {
				t.Errorf("Seq %d behind 28 messages from %d on", r.Seq, seq)
			}
		}
	}
}

// At its greatest Now a router goes on: what is due there is due at each tick.
func TestPromise13TicksAtTheGreatestNow(t *testing.T) {
	for addr := 1; addr <= 8; addr++ {
		r := fullRouter(addr)
		r.Now = maxTick - 2
		for i := range r.Links {
			r.Links[i].Heard, r.Links[i].Sym = maxTick+5, maxTick+1
		}
		for i := range 6 {
			x, b := checkTick(t, r)
			if x.Now != min(maxTick-1+i, maxTick) {
				t.Errorf("tick %d: Now %d", i, x.Now)
			}
			if want := (x.Now+addr)%2 == 0 || (x.Now+addr)%5 == 0; want != (len(b) > 0) {
				t.Errorf("%d at %d: %d bytes", addr, x.Now, len(b))
			}
			if len(x.Links) != 7 || len(wantAdvertised(x)) != 7 {
				t.Errorf("at %d: %v", x.Now, x.Links)
			}
			r = x
		}
	}
}

func TestPromise13TicksOfRightRouters(t *testing.T) {
	for _, r := range rightRouters() {
		for range 12 {
			r, _ = checkTick(t, r)
		}
		checkRouter(t, r)
	}
}

func TestPromise13TicksOfDrawnRouters(t *testing.T) {
	d := &draws{133}
	for range 400 {
		r := d.router()
		for range 45 {
			r, _ = checkTick(t, r)
		}
		if len(r.Links)+len(r.Two)+len(r.Selectors)+len(r.Dups)+len(r.Topology.Sources)+len(r.Topology.Edges) != 0 {
			t.Errorf("behind 45 silent ticks there still is %v", r)
		}
	}
}

// An advertisement that is due tells what TcNow would, and the router that is left is its.
func TestPromise13TicksAdvertiseByNumber(t *testing.T) {
	r := outRouter(65534, nil, 2, 5)
	r.Links[0].Heard, r.Links[0].Sym = 1000, 1000
	var numbers []int
	for now := 11; now <= 49; now++ {
		switch now {
		case 23:
			r.Links[0].Out = 6
		case 31:
			r.Links[0].Out = 5
		case 32, 33:
			r.Links[0].Out = now
		case 34:
			r.Links[0].Out = 5
		case 41:
			r.Links[0].Sym = 41
		}
		x, b := checkTick(t, r)
		list, _ := impl.DecodePacket(b)
		for _, m := range list {
			if m.Type == impl.MeTc {
				tc, _ := impl.DecodeTc(m.Body)
				numbers = append(numbers, tc.Ansn)
			}
		}
		r = x
	}
	if want := []int{65535, 65535, 0, 0, 1, 1, 2, 2}; !slices.Equal(numbers, want) {
		t.Errorf("numbers %v, not %v", numbers, want)
	}
}
