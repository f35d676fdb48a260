package tests

import (
	"testing"

	"loop.example/g00419/impl"
)

const (
	timeCodes   = 224
	metricCodes = 4096
	lastTime    = 251658240
	lastMetric  = 16776960
)

// doubled multiplies step by step, so that the tests don't lean on shifts as the program does.
func doubled(n, times int) int {
	for range times {
		n *= 2
	}
	return n
}

func wantTime(code int) int { return doubled(8+code%8, code/8) / 8 }

func wantMetric(code int) int { return doubled(257+code%256, code/256) - 256 }

// wantCode goes through all codes from the first one on.
func wantCode(n, codes int, valueOf func(int) int) int {
	for code := range codes {
		if valueOf(code) >= n {
			return code
		}
	}
	return -1
}

func checkTimeCode(t *testing.T, n int) {
	t.Helper()
	if got, code := impl.TimeCode(n); got != wantCode(n, timeCodes, wantTime) || code != impl.OK {
		t.Errorf("TimeCode(%d) = %d, %d", n, got, code)
	}
}

func checkMetricCode(t *testing.T, n, want int) {
	t.Helper()
	if got, code := impl.MetricCode(n); got != want || code != impl.OK {
		t.Errorf("MetricCode(%d) = %d, %d, not %d", n, got, code, want)
	}
}

func TestPromise3Limits(t *testing.T) {
	if impl.MaxTime != 1073741824 || impl.MaxMetric != 16744448 {
		t.Error("limits of chapter 3", impl.MaxTime, impl.MaxMetric)
	}
}

func TestPromise3TimeOfEachCode(t *testing.T) {
	for code := range timeCodes {
		if n, e := impl.TimeOf(code); n != wantTime(code) || e != impl.OK {
			t.Errorf("TimeOf(%d) = %d, %d, not %d", code, n, e, wantTime(code))
		}
	}
	for code, want := range map[int]int{0: 1, 7: 1, 8: 2, 11: 2, 12: 3, 15: 3, 16: 4, 23: 7, 24: 8, 25: 9, 222: 234881024, 223: lastTime} {
		if n, e := impl.TimeOf(code); n != want || e != impl.OK {
			t.Errorf("TimeOf(%d) = %d, %d, not %d", code, n, e, want)
		}
	}
}

func TestPromise3TimeCodeIsTheLeast(t *testing.T) {
	for code := range timeCodes {
		for n := wantTime(code) - 2; n <= wantTime(code)+2; n++ {
			if 1 <= n && n <= lastTime {
				checkTimeCode(t, n)
			}
		}
	}
	for n := 1; n <= 12000; n++ {
		checkTimeCode(t, n)
	}
	d := &draws{31}
	for range 5000 {
		checkTimeCode(t, 1+d.next(doubled(1, 1+d.next(27))))
		checkTimeCode(t, 1+d.next(lastTime))
	}
	for n, want := range map[int]int{1: 0, 2: 8, 3: 12, 4: 16, 5: 18, 8: 24, 9: 25, 17: 33, 234881024: 222, 234881025: 223, lastTime: 223} {
		if got, e := impl.TimeCode(n); got != want || e != impl.OK {
			t.Errorf("TimeCode(%d) = %d, %d, not %d", n, got, e, want)
		}
	}
}

func TestPromise3MetricOfEachCode(t *testing.T) {
	for code := range metricCodes {
		if n, e := impl.MetricOf(code); n != wantMetric(code) || e != impl.OK {
			t.Errorf("MetricOf(%d) = %d, %d, not %d", code, n, e, wantMetric(code))
		}
	}
	for code, want := range map[int]int{0: 1, 1: 2, 255: 256, 256: 258, 511: 768, 512: 772, 4094: impl.MaxMetric - 256, 4095: lastMetric} {
		if n, e := impl.MetricOf(code); n != want || e != impl.OK {
			t.Errorf("MetricOf(%d) = %d, %d, not %d", code, n, e, want)
		}
	}
}

func TestPromise3MetricCodeIsTheLeast(t *testing.T) {
	low := 0
	for code := range metricCodes {
		high := wantMetric(code)
		for _, n := range []int{low + 1, low + 2, (low + high + 1) / 2, high - 1, high} {
			if low < n && n <= high {
				checkMetricCode(t, n, code)
			}
		}
		low = high
	}
	for n := 1; n <= 6000; n++ {
		checkMetricCode(t, n, wantCode(n, metricCodes, wantMetric))
	}
	d := &draws{32}
	for range 2000 {
		n := 1 + d.next(lastMetric)
		checkMetricCode(t, n, wantCode(n, metricCodes, wantMetric))
	}
	for n, want := range map[int]int{1: 0, 2: 1, 256: 255, 257: 256, 258: 256, 259: 257, 768: 511, 769: 512, 772: 512, 773: 513, impl.MaxMetric - 256: 4094, impl.MaxMetric - 255: 4095, lastMetric: 4095} {
		checkMetricCode(t, n, want)
	}
}

func TestPromise3SmallMetricsAreExact(t *testing.T) {
	for n := 1; n <= 257; n++ {
		code, _ := impl.MetricCode(n)
		back, e := impl.MetricOf(code)
		if e != impl.OK || (back == n) != (n <= 256) {
			t.Errorf("metric %d is told as %d, %d", n, back, e)
		}
	}
}

func TestPromise3CodesOutOfRange(t *testing.T) {
	wild := append([]int{-224, 222, 223, 224, 225, 231, 232, 4094, 4095, 4096, 4097, lastTime - 1, lastTime, lastTime + 1,
		lastMetric - 1, lastMetric, lastMetric + 1, impl.MaxMetric, impl.MaxTime}, wildInts...)
	for _, n := range wild {
		for _, c := range []struct {
			name      string
			call      func(int) (int, int)
			low, high int
		}{
			{"TimeOf", impl.TimeOf, 0, timeCodes - 1},
			{"TimeCode", impl.TimeCode, 1, lastTime},
			{"MetricOf", impl.MetricOf, 0, metricCodes - 1},
			{"MetricCode", impl.MetricCode, 1, lastMetric},
			{"SeqNext", impl.SeqNext, 0, 65535},
		} {
			mustNotPanic(t, c.name, func() {
				got, e := c.call(n)
				if right := c.low <= n && n <= c.high; right != (e == impl.OK) || !right && (got != 0 || e != impl.ErrRange) {
					t.Errorf("%s(%d) = %d, %d", c.name, n, got, e)
				}
			})
		}
	}
}
