package tests

import (
	"slices"
	"strconv"
	"testing"

	"loop.example/g00419/impl"
)

const (
	lastValid = 9216
	toldMost  = 16744192
)

// exactValids are the times that a hello may have: each of them once, rising.
func exactValids() []int {
	var list []int
	for code := range timeCodes {
		if n := wantTime(code); n <= 10000 && !slices.Contains(list, n) {
			list = append(list, n)
		}
	}
	return list
}

func plainHello() impl.Hello {
	return impl.Hello{Will: 3, Valid: 6, List: []impl.Neighbor{
		{Addr: 2, Status: impl.StSym, Metric: 5, Mpr: true},
		{Addr: 4, Status: impl.StSym, Metric: 256},
		{Addr: 7, Status: impl.StHeard, Metric: 258},
		{Addr: 8, Status: impl.StLost, Metric: 1},
	}}
}

func helloOf(list ...impl.Neighbor) impl.Hello {
	return impl.Hello{Will: 3, Valid: 6, List: list}
}

// eachStatus has a neighbor of each status, with and without Mpr where it may be.
func eachStatus(addr, metric int) []impl.Neighbor {
	return []impl.Neighbor{
		{Addr: addr, Status: 0, Metric: metric},
		{Addr: addr, Status: 1, Metric: metric},
		{Addr: addr, Status: 2, Metric: metric},
		{Addr: addr, Status: 2, Metric: metric, Mpr: true},
	}
}

func (d *draws) hello() impl.Hello {
	valids := exactValids()
	h := impl.Hello{Will: d.next(8), Valid: valids[d.next(len(valids))]}
	for addr := 1; addr <= 8; addr++ {
		if d.next(3) > 0 {
			h.List = append(h.List, eachStatus(addr, wantMetric(d.next(4095)))[d.next(4)])
		}
	}
	return h
}

// edgeHellos has every mix of the least and the greatest Will and Valid, none, one and the most neighbors, each
// status with and without Mpr, and the least and the greatest address and metric.
func edgeHellos() []impl.Hello {
	lists := [][]impl.Neighbor{nil, {}}
	for _, addr := range []int{1, 8} {
		for _, metric := range []int{1, 256, 258, toldMost} {
			for _, x := range eachStatus(addr, metric) {
				lists = append(lists, []impl.Neighbor{x})
			}
		}
	}
	for shape := range 4 {
		var most []impl.Neighbor
		for addr := 1; addr <= 8; addr++ {
			most = append(most, eachStatus(addr, wantMetric(4094-addr*shape))[(addr*shape+shape)%4])
		}
		lists = append(lists, most, most[:7], most[1:], []impl.Neighbor{most[0], most[7]})
	}
	var hellos []impl.Hello
	for _, list := range lists {
		for _, will := range []int{0, 1, 6, 7} {
			for _, valid := range []int{1, 2, 8192, lastValid} {
				hellos = append(hellos, impl.Hello{Will: will, Valid: valid, List: list})
			}
		}
	}
	return hellos
}

// helloBytes lays a hello out as chapter 5 tells it, each byte on its own.
func helloBytes(h impl.Hello) string {
	b := []byte{byte(h.Will), byte(wantCode(h.Valid, timeCodes, wantTime)), byte(len(h.List))}
	for _, x := range h.List {
		status := x.Status
		if x.Mpr {
			status += 128
		}
		code := wantCode(x.Metric, metricCodes, wantMetric)
		b = append(b, byte(x.Addr), byte(status), byte(code/256), byte(code%256))
	}
	return string(b)
}

func wantHelloText(h impl.Hello) string {
	text := "will " + strconv.Itoa(h.Will) + " valid " + strconv.Itoa(h.Valid)
	for _, x := range h.List {
		word := map[int]string{0: "lost", 1: "heard", 2: "sym"}[x.Status]
		text += " " + strconv.Itoa(x.Addr) + ":" + word + ":" + strconv.Itoa(x.Metric)
		if x.Mpr {
			text += ":mpr"
		}
	}
	return text
}

func sameHello(a, b impl.Hello) bool {
	return a.Will == b.Will && a.Valid == b.Valid && slices.Equal(a.List, b.List)
}

func checkHello(t *testing.T, h impl.Hello) {
	t.Helper()
	want := helloBytes(h)
	if !impl.HelloOK(h) {
		t.Fatalf("HelloOK(%v) = false", h)
	}
	text, code := impl.EncodeHello(h)
	if text != want || code != impl.OK {
		t.Fatalf("EncodeHello(%v) = %q, %d, not %q", h, text, code, want)
	}
	back, code := impl.DecodeHello(want)
	if !sameHello(back, h) || code != impl.OK {
		t.Fatalf("DecodeHello(%q) = %v, %d, not %v", want, back, code, h)
	}
}

// checkAsked holds what is asked of a right hello against what its list says.
func checkAsked(t *testing.T, h impl.Hello) {
	t.Helper()
	var syms []int
	there := map[int]impl.Neighbor{}
	for _, x := range h.List {
		there[x.Addr] = x
		if x.Status == 2 {
			syms = append(syms, x.Addr)
		}
	}
	if got, code := impl.SymOf(h); !slices.Equal(got, syms) || code != impl.OK {
		t.Errorf("SymOf(%v) = %v, %d", h, got, code)
	}
	for _, addr := range append([]int{4, 5, 6}, wildInts...) {
		want, is := there[addr]
		got, code := impl.NeighborOf(h, addr)
		if got != want || is != (code == impl.OK) || !is && code != impl.ErrNone {
			t.Errorf("NeighborOf(%v, %d) = %v, %d", h, addr, got, code)
		}
	}
	if got, code := impl.HelloText(h); got != wantHelloText(h) || code != impl.OK {
		t.Errorf("HelloText(%v) = %q, %d", h, got, code)
	}
}

func TestPromise5Constants(t *testing.T) {
	if impl.StLost != 0 || impl.StHeard != 1 || impl.StSym != 2 {
		t.Error("statuses", impl.StLost, impl.StHeard, impl.StSym)
	}
	if impl.WillNever != 0 || impl.WillAlways != 7 {
		t.Error("wills", impl.WillNever, impl.WillAlways)
	}
	if valids := exactValids(); valids[0] != 1 || valids[len(valids)-1] != lastValid || wantMetric(4094) != toldMost {
		t.Error("edges of times and metrics", valids)
	}
}

func TestPromise5HelloBytesByHand(t *testing.T) {
	for _, x := range []struct {
		h    impl.Hello
		want string
	}{
		{impl.Hello{Valid: 1}, "\x00\x00\x00"},
		{impl.Hello{Will: 7, Valid: lastValid}, "\x07\x69\x00"},
		{plainHello(), "\x03\x14\x04\x02\x82\x00\x04\x04\x02\x00\xff\x07\x01\x01\x00\x08\x00\x00\x00"},
		{helloOf(impl.Neighbor{Addr: 1, Metric: toldMost}), "\x03\x14\x01\x01\x00\x0f\xfe"},
		{helloOf(impl.Neighbor{Addr: 8, Status: 2, Metric: 768, Mpr: true}), "\x03\x14\x01\x08\x82\x01\xff"},
	} {
		if got, code := impl.EncodeHello(x.h); got != x.want || code != impl.OK {
			t.Errorf("EncodeHello(%v) = %q, %d", x.h, got, code)
		}
		if got, code := impl.DecodeHello(x.want); !sameHello(got, x.h) || code != impl.OK {
			t.Errorf("DecodeHello(%q) = %v, %d", x.want, got, code)
		}
	}
}

func TestPromise5HelloTextByHand(t *testing.T) {
	for _, x := range []struct {
		h    impl.Hello
		want string
	}{
		{impl.Hello{Valid: 1}, "will 0 valid 1"},
		{impl.Hello{Will: 7, Valid: lastValid}, "will 7 valid 9216"},
		{plainHello(), "will 3 valid 6 2:sym:5:mpr 4:sym:256 7:heard:258 8:lost:1"},
		{helloOf(impl.Neighbor{Addr: 1, Metric: toldMost}), "will 3 valid 6 1:lost:16744192"},
	} {
		if got, code := impl.HelloText(x.h); got != x.want || code != impl.OK {
			t.Errorf("HelloText(%v) = %q, %d", x.h, got, code)
		}
	}
}

func TestPromise5AskedByHand(t *testing.T) {
	h := plainHello()
	if list, code := impl.SymOf(h); !slices.Equal(list, []int{2, 4}) || code != impl.OK {
		t.Error("SymOf", list, code)
	}
	for i, addr := range []int{2, 4, 7, 8} {
		if x, code := impl.NeighborOf(h, addr); x != h.List[i] || code != impl.OK {
			t.Error("NeighborOf", addr, x, code)
		}
	}
	for _, addr := range []int{-1, 0, 1, 3, 5, 6, 9, 256 + 2} {
		if x, code := impl.NeighborOf(h, addr); x != (impl.Neighbor{}) || code != impl.ErrNone {
			t.Error("NeighborOf", addr, x, code)
		}
	}
}

func TestPromise5HellosAreReadBack(t *testing.T) {
	for _, h := range edgeHellos() {
		checkHello(t, h)
		checkAsked(t, h)
	}
	d := &draws{51}
	for range 3000 {
		h := d.hello()
		checkHello(t, h)
		checkAsked(t, h)
	}
}

func TestPromise5EachValidAndEachMetric(t *testing.T) {
	for _, valid := range exactValids() {
		for will := range 8 {
			checkHello(t, impl.Hello{Will: will, Valid: valid})
		}
	}
	for code := range metricCodes - 1 {
		checkHello(t, helloOf(eachStatus(1+code%8, wantMetric(code))[code/8%4]))
	}
}

func TestPromise5EachChoiceOfNeighbors(t *testing.T) {
	for choice := range 1 << 8 {
		h := helloOf()
		for i := range 8 {
			if choice>>i&1 == 1 {
				h.List = append(h.List, eachStatus(i+1, 10*i+1)[(choice+i)%4])
			}
		}
		checkHello(t, h)
		checkAsked(t, h)
	}
}
