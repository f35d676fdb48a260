package tests

import (
	"slices"
	"strings"
	"testing"

	"loop.example/g00419/impl"
)

// wrongEdges has edges with one fault each.
func wrongEdges() []impl.Edge {
	var list []impl.Edge
	for _, n := range wildInts {
		if n < 1 || n > 8 {
			list = append(list, impl.Edge{To: n, Metric: 5})
		}
	}
	for _, n := range []int{-255, -1, 0, 257, 259, 261, 767, 769, 771, 773, 1 << 20, toldMost - 1, toldMost + 1, impl.MaxMetric, lastMetric - 1,
		lastMetric, lastMetric + 1, 1<<32 + 1, 1 << 62, wildInts[0], wildInts[len(wildInts)-1]} {
		list = append(list, impl.Edge{To: 4, Metric: n})
	}
	return list
}

// risingEdges has n edges whose To rise, also beyond the greatest address.
func risingEdges(n int) []impl.Edge {
	list := make([]impl.Edge, n)
	for i := range list {
		list[i] = impl.Edge{To: i + 1, Metric: 1}
	}
	return list
}

func edgesTo(addrs ...int) []impl.Edge {
	var list []impl.Edge
	for _, to := range addrs {
		list = append(list, impl.Edge{To: to, Metric: 5})
	}
	return list
}

func wrongTcs() []impl.Tc {
	list := []impl.Tc{{}, {Ansn: 7}}
	for _, n := range append([]int{-7, 65534 + 65536, 70000}, wildInts...) {
		if n < 0 || n > 65535 {
			list = append(list, impl.Tc{Ansn: n, Valid: 15}, impl.Tc{Ansn: n, Valid: 15, List: plainTc().List})
		}
	}
	for _, n := range append([]int{17, 19, 33, 9215, 9217, 9999, 10000, 10001, 10239, 10240, 11264, lastTime}, wildInts...) {
		if !slices.Contains(exactValids(), n) {
			list = append(list, impl.Tc{Ansn: 7, Valid: n}, impl.Tc{Ansn: 7, Valid: n, List: plainTc().List})
		}
	}
	for _, addrs := range [][]int{{1, 1}, {8, 8}, {2, 1}, {8, 1}, {1, 3, 2}, {1, 3, 3}, {3, 3, 4}, {3, 2, 4}, {1, 2, 3, 4, 5, 6, 8, 7}, {0, 1}, {8, 9}} {
		list = append(list, tcOf(edgesTo(addrs...)...))
	}
	for _, n := range []int{9, 10, 255, 256, 257, impl.MaxList, impl.MaxList + 1, 3 * impl.MaxList} {
		list = append(list, tcOf(risingEdges(n)...), tcOf(slices.Repeat(edgesTo(1), n)...))
	}
	for _, x := range wrongEdges() {
		ahead, behind := impl.Edge{To: 1, Metric: 5}, impl.Edge{To: 8, Metric: 5}
		list = append(list, tcOf(x), tcOf(ahead, x), tcOf(x, behind), tcOf(ahead, x, behind))
	}
	return list
}

func checkWrongTc(t *testing.T, x impl.Tc) {
	t.Helper()
	mustNotPanic(t, "a call on a wrong advertisement", func() {
		if impl.TcOK(x) {
			t.Errorf("TcOK(%.200v)", x)
		}
		if s, code := impl.EncodeTc(x); s != "" || code != impl.ErrBad {
			t.Errorf("EncodeTc(%.200v) = %.20q, %d", x, s, code)
		}
		for _, to := range []int{1, 3, 4, 8, wildInts[0]} {
			if n, code := impl.EdgeOf(x, to); n != 0 || code != impl.ErrBad {
				t.Errorf("EdgeOf(%.200v, %d) = %d, %d", x, to, n, code)
			}
		}
		if s, code := impl.TcText(x); s != "" || code != impl.ErrBad {
			t.Errorf("TcText(%.200v) = %.20q, %d", x, s, code)
		}
	})
}

func checkNoTc(t *testing.T, text string, want int) {
	t.Helper()
	mustNotPanic(t, "DecodeTc", func() {
		if x, code := impl.DecodeTc(text); !sameTc(x, impl.Tc{}) || code != want {
			t.Errorf("DecodeTc(%.40q), %d bytes: %.200v, %d, want code %d", text, len(text), x, code, want)
		}
	})
}

// checkAnyTcText holds a text against the two answers that there are: it is no advertisement's, or it is just what its
// advertisement is told by.
func checkAnyTcText(t *testing.T, text string) {
	t.Helper()
	x, code := impl.DecodeTc(text)
	if code != impl.OK {
		checkNoTc(t, text, impl.ErrForm)
		return
	}
	if !impl.TcOK(x) || tcBytes(x) != text {
		t.Errorf("DecodeTc(%q) = %v, whose text is another one", text, x)
	}
}

func TestPromise6WrongTcs(t *testing.T) {
	for _, x := range wrongTcs() {
		checkWrongTc(t, x)
	}
}

func TestPromise6EachIntegerAsValid(t *testing.T) {
	valids := exactValids()
	for n := -10; n <= 12000; n++ {
		if got := impl.TcOK(impl.Tc{Valid: n}); got != slices.Contains(valids, n) {
			t.Errorf("TcOK with Valid %d: %v", n, got)
		}
	}
}

func TestPromise6EachIntegerAsMetric(t *testing.T) {
	check := func(n, exact int) {
		if got := impl.TcOK(tcOf(impl.Edge{To: 1, Metric: n})); got != (n == exact) {
			t.Errorf("TcOK with Metric %d: %v", n, got)
		}
	}
	for n := -300; n <= 0; n++ {
		check(n, 1)
	}
	low := 0
	for code := range metricCodes - 1 {
		exact := wantMetric(code)
		for n := max(low+1, exact-40); n <= exact; n++ {
			check(n, exact)
		}
		check(low+1, exact)
		low = exact
	}
	for n := low + 1; n < low+70000; n++ {
		check(n, low)
	}
}

func TestPromise6CutAndDrawnOutTcs(t *testing.T) {
	for _, x := range edgeTcs() {
		whole := tcBytes(x)
		for n := range len(whole) {
			checkNoTc(t, whole[:n], impl.ErrForm)
		}
		for _, more := range []string{"\x00", "x", "\x08\x00", "\x08\x00\x00", "\x08\x00\x00\x00", strings.Repeat("\xff", 700)} {
			checkNoTc(t, whole+more, impl.ErrForm)
		}
		checkNoTc(t, whole+whole, impl.ErrForm)
	}
}

// A cut text is no advertisement's even where the zeros that are missing would make it one.
func TestPromise6CutWhereZerosAreMissing(t *testing.T) {
	for _, x := range []impl.Tc{{Valid: 1}, {Ansn: 256, Valid: 1}, {Valid: 1, List: risingEdges(1)}, {Ansn: 65535, Valid: 1, List: risingEdges(8)}} {
		whole := tcBytes(x)
		checkTc(t, x)
		for n := len(strings.TrimRight(whole, "\x00")); n < len(whole); n++ {
			checkNoTc(t, whole[:n], impl.ErrForm)
		}
	}
}

func TestPromise6EachHead(t *testing.T) {
	for ansn := range 256 {
		for code := range 256 {
			text := string([]byte{byte(ansn), byte(255 - ansn), byte(code), 0})
			right := code < timeCodes && wantTime(code) <= 10000 && (code == 0 || wantTime(code-1) < wantTime(code))
			if !right {
				checkNoTc(t, text, impl.ErrForm)
				continue
			}
			checkTc(t, impl.Tc{Ansn: 256*ansn + 255 - ansn, Valid: wantTime(code)})
		}
	}
}

func TestPromise6EachMetricCode(t *testing.T) {
	for code := range 65536 {
		text := "\x00\x07\x1f\x01\x05" + string([]byte{byte(code / 256), byte(code % 256)})
		if code > 4094 {
			checkNoTc(t, text, impl.ErrForm)
			continue
		}
		x, e := impl.DecodeTc(text)
		if want := tcOf(impl.Edge{To: 5, Metric: wantMetric(code)}); !sameTc(x, want) || e != impl.OK {
			t.Errorf("DecodeTc(%q) = %v, %d", text, x, e)
		}
	}
}

func TestPromise6EachCount(t *testing.T) {
	for n := range 300 {
		body := tcBytes(tcOf(risingEdges(n)...))[4:]
		for count := range 256 {
			text := "\x00\x07\x1f" + string([]byte{byte(count)}) + body
			if count != n || n > 8 {
				checkNoTc(t, text, impl.ErrForm)
			} else {
				checkTc(t, tcOf(risingEdges(n)...))
			}
		}
	}
}

func TestPromise6TextsOfEdgesThatDoNotRise(t *testing.T) {
	for a := range 10 {
		for b := range 10 {
			for c := range 10 {
				x := tcOf(edgesTo(a, b, c)...)
				if 1 <= a && a < b && b < c && c <= 8 {
					checkTc(t, x)
				} else {
					checkNoTc(t, tcBytes(x), impl.ErrForm)
				}
			}
		}
	}
	for to := range 256 {
		text := "\x00\x07\x1f\x01" + string([]byte{byte(to), 0, 4})
		if 1 <= to && to <= 8 {
			checkTc(t, tcOf(edgesTo(to)...))
		} else {
			checkNoTc(t, text, impl.ErrForm)
		}
	}
}

func TestPromise6EachByteOfATc(t *testing.T) {
	whole := tcBytes(plainTc())
	for i := range len(whole) {
		for c := range 256 {
			checkAnyTcText(t, whole[:i]+string([]byte{byte(c)})+whole[i+1:])
		}
	}
}

func TestPromise6AnyText(t *testing.T) {
	d := &draws{62}
	for range 20000 {
		checkAnyTcText(t, d.text(d.next(60)))
		b := []byte(tcBytes(d.tc()))
		for range 1 + d.next(3) {
			b[d.next(len(b))] = byte(d.next(256) >> d.next(8))
		}
		checkAnyTcText(t, string(b))
	}
	for a := range 256 {
		checkNoTc(t, string([]byte{byte(a)}), impl.ErrForm)
		for b := range 256 {
			checkNoTc(t, string([]byte{byte(a), byte(b)}), impl.ErrForm)
			checkNoTc(t, string([]byte{0, byte(a), byte(b)}), impl.ErrForm)
		}
	}
}

func TestPromise6LongTexts(t *testing.T) {
	right := tcBytes(plainTc())
	for _, n := range []int{impl.MaxText - 1, impl.MaxText} {
		checkNoTc(t, strings.Repeat("\x00", n), impl.ErrForm)
		checkNoTc(t, right+strings.Repeat("\x00", n-len(right)), impl.ErrForm)
	}
	for _, n := range []int{impl.MaxText + 1, impl.MaxText + 2, 1 << 20} {
		checkNoTc(t, strings.Repeat("\x00", n), impl.ErrLong)
		checkNoTc(t, right+strings.Repeat("\x00", n-len(right)), impl.ErrLong)
	}
}
