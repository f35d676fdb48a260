package tests

import (
	"math"
	"strings"
	"testing"

	"loop.example/g00419/impl"
)

// wildInts are integers that no field may have, or that only some may.
var wildInts = []int{
	math.MinInt, math.MinInt + 1, math.MinInt32, -65536, -257, -256, -255, -129, -128, -8, -2, -1,
	0, 1, 2, 3, 7, 8, 9, 127, 128, 129, 255, 256, 257, 258, 511, 512, 65535, 65536, 65537,
	1 << 24, math.MaxInt32, math.MaxInt32 + 1, 1 << 32, 1<<32 + 1, 1<<40 + 2, math.MaxInt - 1, math.MaxInt,
}

// draws is a rule of its own for numbers that look drawn: the same at each run.
type draws struct{ state uint64 }

func (d *draws) next(n int) int {
	d.state = d.state*6364136223846793005 + 1442695040888963407
	return int((d.state >> 33) % uint64(n))
}

func (d *draws) text(n int) string {
	var b strings.Builder
	for range n {
		b.WriteByte(byte(d.next(256)))
	}
	return b.String()
}

func (d *draws) message() impl.Message {
	return impl.Message{
		Type:     1 + d.next(2),
		Origin:   1 + d.next(8),
		Seq:      d.next(65536),
		HopLimit: d.next(256),
		Hops:     d.next(256),
		Body:     d.text(d.next(121)),
	}
}

func (d *draws) messages(n int) []impl.Message {
	var list []impl.Message
	for range n {
		list = append(list, d.message())
	}
	return list
}

// guarded answers a copy of b in the middle of a greater array, and a func that says whether
// anything of the array was written, also ahead of the copy and behind its end.
func guarded(b []byte) ([]byte, func() bool) {
	const margin = 300
	room := make([]byte, margin+len(b)+margin)
	for i := range room {
		room[i] = 0xa5
	}
	copy(room[margin:], b)
	before := string(room)
	return room[margin : margin+len(b)], func() bool { return string(room) != before }
}

// mustNotPanic says which call panicked, instead of ending all tests.
func mustNotPanic(t *testing.T, what string, call func()) {
	t.Helper()
	defer func() {
		if r := recover(); r != nil {
			t.Errorf("%s panicked: %v", what, r)
		}
	}()
	call()
}
