package tests

import (
	"slices"
	"strconv"
	"testing"

	"loop.example/g00419/impl"
)

func tcOf(list ...impl.Edge) impl.Tc {
	return impl.Tc{Ansn: 7, Valid: 15, List: list}
}

func plainTc() impl.Tc {
	return tcOf(impl.Edge{To: 2, Metric: 5}, impl.Edge{To: 4, Metric: 256}, impl.Edge{To: 7, Metric: 258}, impl.Edge{To: 8, Metric: 1})
}

func (d *draws) tc() impl.Tc {
	valids := exactValids()
	x := impl.Tc{Ansn: d.next(65536), Valid: valids[d.next(len(valids))]}
	for to := 1; to <= 8; to++ {
		if d.next(3) > 0 {
			x.List = append(x.List, impl.Edge{To: to, Metric: wantMetric(d.next(4095))})
		}
	}
	return x
}

// edgeTcs has every mix of the least and the greatest Ansn and Valid, none, one and the most edges, and the least and
// the greatest To and metric.
func edgeTcs() []impl.Tc {
	lists := [][]impl.Edge{nil, {}}
	for _, metric := range []int{1, 255, 256, 258, toldMost} {
		lists = append(lists, []impl.Edge{{To: 1, Metric: metric}}, []impl.Edge{{To: 8, Metric: metric}})
	}
	for shape := range 4 {
		var most []impl.Edge
		for to := 1; to <= 8; to++ {
			most = append(most, impl.Edge{To: to, Metric: wantMetric((4094 + to*shape*511) % 4095)})
		}
		lists = append(lists, most, most[:7], most[1:], []impl.Edge{most[0], most[7]})
	}
	var list []impl.Tc
	for _, edges := range lists {
		for _, ansn := range []int{0, 1, 255, 256, 32767, 32768, 65534, 65535} {
			for _, valid := range []int{1, 2, 8192, lastValid} {
				list = append(list, impl.Tc{Ansn: ansn, Valid: valid, List: edges})
			}
		}
	}
	return list
}

// tcBytes lays an advertisement out as chapter 6 tells it, each byte on its own.
func tcBytes(x impl.Tc) string {
	b := []byte{byte(x.Ansn / 256), byte(x.Ansn % 256), byte(wantCode(x.Valid, timeCodes, wantTime)), byte(len(x.List))}
	for _, e := range x.List {
		code := wantCode(e.Metric, metricCodes, wantMetric)
		b = append(b, byte(e.To), byte(code/256), byte(code%256))
	}
	return string(b)
}

func wantTcText(x impl.Tc) string {
	text := "ansn " + strconv.Itoa(x.Ansn) + " valid " + strconv.Itoa(x.Valid)
	for _, e := range x.List {
		text += " " + strconv.Itoa(e.To) + ":" + strconv.Itoa(e.Metric)
	}
	return text
}

func sameTc(a, b impl.Tc) bool {
	return a.Ansn == b.Ansn && a.Valid == b.Valid && slices.Equal(a.List, b.List)
}

func checkTc(t *testing.T, x impl.Tc) {
	t.Helper()
	want := tcBytes(x)
	if !impl.TcOK(x) {
		t.Fatalf("TcOK(%v) = false", x)
	}
	text, code := impl.EncodeTc(x)
	if text != want || code != impl.OK {
		t.Fatalf("EncodeTc(%v) = %q, %d, not %q", x, text, code, want)
	}
	back, code := impl.DecodeTc(want)
	if !sameTc(back, x) || code != impl.OK {
		t.Fatalf("DecodeTc(%q) = %v, %d, not %v", want, back, code, x)
	}
}

// checkTcAsked holds what is asked of a right advertisement against what its list says.
func checkTcAsked(t *testing.T, x impl.Tc) {
	t.Helper()
	there := map[int]int{}
	for _, e := range x.List {
		there[e.To] = e.Metric
	}
	for _, to := range append([]int{4, 5, 6}, wildInts...) {
		want, is := there[to]
		got, code := impl.EdgeOf(x, to)
		if got != want || is != (code == impl.OK) || !is && code != impl.ErrNone {
			t.Errorf("EdgeOf(%v, %d) = %d, %d", x, to, got, code)
		}
	}
	if got, code := impl.TcText(x); got != wantTcText(x) || code != impl.OK {
		t.Errorf("TcText(%v) = %q, %d", x, got, code)
	}
}

func TestPromise6TcBytesByHand(t *testing.T) {
	for _, x := range []struct {
		tc   impl.Tc
		want string
	}{
		{impl.Tc{Valid: 1}, "\x00\x00\x00\x00"},
		{impl.Tc{Ansn: 65535, Valid: lastValid}, "\xff\xff\x69\x00"},
		{impl.Tc{Ansn: 256, Valid: 6}, "\x01\x00\x14\x00"},
		{plainTc(), "\x00\x07\x1f\x04\x02\x00\x04\x04\x00\xff\x07\x01\x00\x08\x00\x00"},
		{tcOf(impl.Edge{To: 1, Metric: toldMost}), "\x00\x07\x1f\x01\x01\x0f\xfe"},
		{tcOf(impl.Edge{To: 8, Metric: 768}), "\x00\x07\x1f\x01\x08\x01\xff"},
	} {
		if got, code := impl.EncodeTc(x.tc); got != x.want || code != impl.OK {
			t.Errorf("EncodeTc(%v) = %q, %d", x.tc, got, code)
		}
		if got, code := impl.DecodeTc(x.want); !sameTc(got, x.tc) || code != impl.OK {
			t.Errorf("DecodeTc(%q) = %v, %d", x.want, got, code)
		}
	}
}

func TestPromise6TcTextByHand(t *testing.T) {
	for _, x := range []struct {
		tc   impl.Tc
		want string
	}{
		{impl.Tc{Valid: 1}, "ansn 0 valid 1"},
		{impl.Tc{Ansn: 65535, Valid: lastValid}, "ansn 65535 valid 9216"},
		{plainTc(), "ansn 7 valid 15 2:5 4:256 7:258 8:1"},
		{tcOf(impl.Edge{To: 1, Metric: toldMost}), "ansn 7 valid 15 1:16744192"},
	} {
		if got, code := impl.TcText(x.tc); got != x.want || code != impl.OK {
			t.Errorf("TcText(%v) = %q, %d", x.tc, got, code)
		}
	}
}

func TestPromise6EdgesByHand(t *testing.T) {
	x := plainTc()
	for i, to := range []int{2, 4, 7, 8} {
		if n, code := impl.EdgeOf(x, to); n != x.List[i].Metric || code != impl.OK {
			t.Error("EdgeOf", to, n, code)
		}
	}
	for _, to := range []int{-1, 0, 1, 3, 5, 6, 9, 256 + 2} {
		if n, code := impl.EdgeOf(x, to); n != 0 || code != impl.ErrNone {
			t.Error("EdgeOf", to, n, code)
		}
	}
}

func TestPromise6TcsAreReadBack(t *testing.T) {
	for _, x := range edgeTcs() {
		checkTc(t, x)
		checkTcAsked(t, x)
	}
	d := &draws{61}
	for range 3000 {
		x := d.tc()
		checkTc(t, x)
		checkTcAsked(t, x)
	}
}

func TestPromise6EachAnsnValidAndMetric(t *testing.T) {
	for ansn := range 65536 {
		checkTc(t, impl.Tc{Ansn: ansn, Valid: 15})
	}
	for _, valid := range exactValids() {
		checkTc(t, impl.Tc{Ansn: valid, Valid: valid})
	}
	for code := range metricCodes - 1 {
		checkTc(t, tcOf(impl.Edge{To: 1 + code%8, Metric: wantMetric(code)}))
	}
}

func TestPromise6EachChoiceOfEdges(t *testing.T) {
	for choice := range 1 << 8 {
		x := tcOf()
		for i := range 8 {
			if choice>>i&1 == 1 {
				x.List = append(x.List, impl.Edge{To: i + 1, Metric: 10*i + 1})
			}
		}
		checkTc(t, x)
		checkTcAsked(t, x)
	}
}

func TestPromise6TheMostEdgesFitABody(t *testing.T) {
	text, code := impl.EncodeTc(tcOf(risingEdges(8)...))
	if code != impl.OK || !impl.MessageOK(impl.Message{Type: impl.MeTc, Origin: 1, Body: text}) {
		t.Error("no message has an advertisement of", len(text), "bytes", code)
	}
}
