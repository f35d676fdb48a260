package tests

import (
	"slices"
	"strings"
	"testing"

	"loop.example/g00419/impl"
)

// wrongNeighbors has neighbors with one fault each.
func wrongNeighbors() []impl.Neighbor {
	right := impl.Neighbor{Addr: 4, Status: impl.StSym, Metric: 5}
	var list []impl.Neighbor
	for _, n := range wildInts {
		if n < 1 || n > 8 {
			x := right
			x.Addr = n
			list = append(list, x)
		}
		if n < 0 || n > 2 {
			x := right
			x.Status = n
			list = append(list, x)
			x.Mpr = true
			list = append(list, x)
		}
	}
	for _, n := range []int{-255, -1, 0, 257, 259, 261, 767, 769, 771, 773, 1 << 20, toldMost - 1, toldMost + 1, impl.MaxMetric, lastMetric - 1,
		lastMetric, lastMetric + 1, 1<<32 + 1, 1 << 62, wildInts[0], wildInts[len(wildInts)-1]} {
		x := right
		x.Metric = n
		list = append(list, x)
	}
	for _, status := range []int{0, 1} {
		list = append(list, impl.Neighbor{Addr: 4, Status: status, Metric: 5, Mpr: true})
	}
	return list
}

// risingNeighbors has n neighbors whose addresses rise, also beyond the greatest one.
func risingNeighbors(n int) []impl.Neighbor {
	list := make([]impl.Neighbor, n)
	for i := range list {
		list[i] = impl.Neighbor{Addr: i + 1, Status: impl.StHeard, Metric: 1}
	}
	return list
}

func neighborsAt(addrs ...int) []impl.Neighbor {
	var list []impl.Neighbor
	for _, addr := range addrs {
		list = append(list, impl.Neighbor{Addr: addr, Status: impl.StSym, Metric: 5})
	}
	return list
}

func wrongHellos() []impl.Hello {
	list := []impl.Hello{{}, {Will: 3}}
	for _, n := range append([]int{-7, 4, 5, 6}, wildInts...) {
		if n < 0 || n > 7 {
			list = append(list, impl.Hello{Will: n, Valid: 6}, impl.Hello{Will: n, Valid: 6, List: plainHello().List})
		}
	}
	for _, n := range append([]int{17, 19, 33, 9215, 9217, 9999, 10000, 10001, 10239, 10240, 11264, lastTime}, wildInts...) {
		if !slices.Contains(exactValids(), n) {
			list = append(list, impl.Hello{Will: 3, Valid: n}, impl.Hello{Will: 3, Valid: n, List: plainHello().List})
		}
	}
	for _, addrs := range [][]int{{1, 1}, {8, 8}, {2, 1}, {8, 1}, {1, 3, 2}, {1, 3, 3}, {3, 3, 4}, {3, 2, 4}, {1, 2, 3, 4, 5, 6, 8, 7}, {0, 1}, {8, 9}} {
		list = append(list, helloOf(neighborsAt(addrs...)...))
	}
	for _, n := range []int{9, 10, 255, 256, 257, impl.MaxList, impl.MaxList + 1, 3 * impl.MaxList} {
		list = append(list, helloOf(risingNeighbors(n)...), helloOf(slices.Repeat(neighborsAt(1), n)...))
	}
	for _, x := range wrongNeighbors() {
		ahead, behind := neighborsAt(1)[0], neighborsAt(8)[0]
		list = append(list, helloOf(x), helloOf(ahead, x), helloOf(x, behind), helloOf(ahead, x, behind))
	}
	return list
}

func checkWrongHello(t *testing.T, h impl.Hello) {
	t.Helper()
	mustNotPanic(t, "a call on a wrong hello", func() {
		if impl.HelloOK(h) {
			t.Errorf("HelloOK(%.200v)", h)
		}
		if s, code := impl.EncodeHello(h); s != "" || code != impl.ErrBad {
			t.Errorf("EncodeHello(%.200v) = %.20q, %d", h, s, code)
		}
		for _, addr := range []int{1, 3, 4, 8, wildInts[0]} {
			if x, code := impl.NeighborOf(h, addr); x != (impl.Neighbor{}) || code != impl.ErrBad {
				t.Errorf("NeighborOf(%.200v, %d) = %v, %d", h, addr, x, code)
			}
		}
		if list, code := impl.SymOf(h); len(list) != 0 || code != impl.ErrBad {
			t.Errorf("SymOf(%.200v) = %v, %d", h, list, code)
		}
		if s, code := impl.HelloText(h); s != "" || code != impl.ErrBad {
			t.Errorf("HelloText(%.200v) = %.20q, %d", h, s, code)
		}
	})
}

func checkNoHello(t *testing.T, text string, want int) {
	t.Helper()
	mustNotPanic(t, "DecodeHello", func() {
		if h, code := impl.DecodeHello(text); !sameHello(h, impl.Hello{}) || code != want {
			t.Errorf("DecodeHello(%.40q), %d bytes: %.200v, %d, want code %d", text, len(text), h, code, want)
		}
	})
}

// checkAnyText holds a text against the two answers that there are: it is no hello's, or it is just what its hello is told by.
func checkAnyText(t *testing.T, text string) {
	t.Helper()
	h, code := impl.DecodeHello(text)
	if code != impl.OK {
		checkNoHello(t, text, impl.ErrForm)
		return
	}
	if !impl.HelloOK(h) || helloBytes(h) != text {
		t.Errorf("DecodeHello(%q) = %v, whose text is another one", text, h)
	}
}

func TestPromise5WrongHellos(t *testing.T) {
	for _, h := range wrongHellos() {
		checkWrongHello(t, h)
	}
}

func TestPromise5EachIntegerAsValid(t *testing.T) {
	valids := exactValids()
	for n := -10; n <= 12000; n++ {
		if got := impl.HelloOK(impl.Hello{Valid: n}); got != slices.Contains(valids, n) {
			t.Errorf("HelloOK with Valid %d: %v", n, got)
		}
	}
}

func TestPromise5EachIntegerAsMetric(t *testing.T) {
	check := func(n, exact int) {
		if got := impl.HelloOK(helloOf(impl.Neighbor{Addr: 1, Metric: n})); got != (n == exact) {
			t.Errorf("HelloOK with Metric %d: %v", n, got)
		}
	}
	for n := -300; n <= 0; n++ {
		check(n, 1)
	}
	low := 0
	for code := range metricCodes - 1 {
		exact := wantMetric(code)
		for n := max(low+1, exact-40); n <= exact; n++ {
			check(n, exact)
		}
		check(low+1, exact)
		low = exact
	}
	for n := low + 1; n < low+70000; n++ {
		check(n, low)
	}
}

func TestPromise5CutAndDrawnOutHellos(t *testing.T) {
	for _, h := range edgeHellos() {
		whole := helloBytes(h)
		for n := range len(whole) {
			checkNoHello(t, whole[:n], impl.ErrForm)
		}
		for _, more := range []string{"\x00", "x", "\x08\x00\x00", "\x08\x00\x00\x00", whole, strings.Repeat("\xff", 700)} {
			checkNoHello(t, whole+more, impl.ErrForm)
			checkNoHello(t, more[:1]+whole, impl.ErrForm)
		}
	}
}

func TestPromise5EachHead(t *testing.T) {
	for will := range 256 {
		for code := range 256 {
			text := string([]byte{byte(will), byte(code), 0})
			right := will <= 7 && code < timeCodes && wantTime(code) <= 10000 && (code == 0 || wantTime(code-1) < wantTime(code))
			if !right {
				checkNoHello(t, text, impl.ErrForm)
				continue
			}
			checkHello(t, impl.Hello{Will: will, Valid: wantTime(code)})
		}
	}
}

func TestPromise5EachAddressAndStatus(t *testing.T) {
	for addr := range 256 {
		for status := range 256 {
			text := "\x03\x14\x01" + string([]byte{byte(addr), byte(status), 0, 4})
			right := 1 <= addr && addr <= 8 && (status <= 2 || status == 130)
			if !right {
				checkNoHello(t, text, impl.ErrForm)
				continue
			}
			checkHello(t, helloOf(impl.Neighbor{Addr: addr, Status: status % 128, Metric: 5, Mpr: status == 130}))
		}
	}
}

func TestPromise5EachMetricCode(t *testing.T) {
	for code := range 65536 {
		text := "\x03\x14\x01\x05\x01" + string([]byte{byte(code / 256), byte(code % 256)})
		if code > 4094 {
			checkNoHello(t, text, impl.ErrForm)
			continue
		}
		h, e := impl.DecodeHello(text)
		if want := helloOf(impl.Neighbor{Addr: 5, Status: 1, Metric: wantMetric(code)}); !sameHello(h, want) || e != impl.OK {
			t.Errorf("DecodeHello(%q) = %v, %d", text, h, e)
		}
	}
}

func TestPromise5EachCount(t *testing.T) {
	for n := range 300 {
		body := helloBytes(helloOf(risingNeighbors(n)...))[3:]
		for count := range 256 {
			text := "\x03\x14" + string([]byte{byte(count)}) + body
			if count != n || n > 8 {
				checkNoHello(t, text, impl.ErrForm)
			} else {
				checkHello(t, helloOf(risingNeighbors(n)...))
			}
		}
	}
}

func TestPromise5TextsOfAddressesThatDoNotRise(t *testing.T) {
	for a := range 10 {
		for b := range 10 {
			for c := range 10 {
				text := helloBytes(helloOf(neighborsAt(a, b, c)...))
				if 1 <= a && a < b && b < c && c <= 8 {
					checkHello(t, helloOf(neighborsAt(a, b, c)...))
				} else {
					checkNoHello(t, text, impl.ErrForm)
				}
			}
		}
	}
}

func TestPromise5EachByteOfAHello(t *testing.T) {
	whole := helloBytes(plainHello())
	for i := range len(whole) {
		for c := range 256 {
			checkAnyText(t, whole[:i]+string([]byte{byte(c)})+whole[i+1:])
		}
	}
}

func TestPromise5AnyText(t *testing.T) {
	d := &draws{52}
	for range 20000 {
		checkAnyText(t, d.text(d.next(60)))
		b := []byte(helloBytes(d.hello()))
		for range 1 + d.next(3) {
			b[d.next(len(b))] = byte(d.next(256) >> d.next(8))
		}
		checkAnyText(t, string(b))
	}
	for a := range 256 {
		checkNoHello(t, string([]byte{byte(a)}), impl.ErrForm)
		for b := range 256 {
			checkNoHello(t, string([]byte{byte(a), byte(b)}), impl.ErrForm)
		}
	}
}

func TestPromise5LongTexts(t *testing.T) {
	right := helloBytes(plainHello())
	for _, n := range []int{impl.MaxText - 1, impl.MaxText} {
		checkNoHello(t, strings.Repeat("\x00", n), impl.ErrForm)
		checkNoHello(t, right+strings.Repeat("\x00", n-len(right)), impl.ErrForm)
	}
	for _, n := range []int{impl.MaxText + 1, impl.MaxText + 2, 1 << 20} {
		checkNoHello(t, strings.Repeat("\x00", n), impl.ErrLong)
		checkNoHello(t, right+strings.Repeat("\x00", n-len(right)), impl.ErrLong)
	}
}
