package tests

import (
	"sync"
	"testing"

	"loop.example/g00419/impl"
)

// wantNewer counts from b upwards, round and round.
func wantNewer(a, b int) bool {
	steps := a - b
	if steps < 0 {
		steps += 65536
	}
	return 1 <= steps && steps <= 32767
}

func TestPromise3NewerNumbers(t *testing.T) {
	for _, b := range []int{0, 1, 2, 32766, 32767, 32768, 32769, 40000, 65534, 65535} {
		for a := range 65536 {
			newer, e := impl.SeqNewer(a, b)
			if newer != wantNewer(a, b) || e != impl.OK {
				t.Fatalf("SeqNewer(%d, %d) = %v, %d", a, b, newer, e)
			}
			older, e := impl.SeqNewer(b, a)
			if older != wantNewer(b, a) || e != impl.OK {
				t.Fatalf("SeqNewer(%d, %d) = %v, %d", b, a, older, e)
			}
		}
	}
}

func TestPromise3NewerAtTheEdges(t *testing.T) {
	for _, c := range []struct {
		a, b int
		want bool
	}{
		{0, 0, false}, {65535, 65535, false}, {0, 65535, true}, {65535, 0, false}, {1, 65535, true},
		{32767, 0, true}, {32768, 0, false}, {0, 32768, false}, {32769, 0, false}, {0, 32769, true},
		{65535, 32767, false}, {32767, 65535, false}, {65535, 32768, true}, {32766, 65535, true},
	} {
		if newer, e := impl.SeqNewer(c.a, c.b); newer != c.want || e != impl.OK {
			t.Errorf("SeqNewer(%d, %d) = %v, %d", c.a, c.b, newer, e)
		}
	}
}

func TestPromise3NumbersGoRound(t *testing.T) {
	n := 0
	for i := range 65536 {
		if n != i {
			t.Fatalf("after %d steps: %d", i, n)
		}
		next, e := impl.SeqNext(n)
		if e != impl.OK {
			t.Fatalf("SeqNext(%d): code %d", n, e)
		}
		if newer, e := impl.SeqNewer(next, n); !newer || e != impl.OK {
			t.Fatalf("SeqNewer(%d, %d) = %v, %d", next, n, newer, e)
		}
		n = next
	}
	if n != 0 {
		t.Error("numbers don't go round to 0:", n)
	}
}

func TestPromise3NewerOutOfRange(t *testing.T) {
	for _, a := range wildInts {
		for _, b := range wildInts {
			mustNotPanic(t, "SeqNewer", func() {
				newer, e := impl.SeqNewer(a, b)
				right := 0 <= a && a <= 65535 && 0 <= b && b <= 65535
				if right && (e != impl.OK || newer != wantNewer(a, b)) || !right && (newer || e != impl.ErrRange) {
					t.Errorf("SeqNewer(%d, %d) = %v, %d", a, b, newer, e)
				}
			})
		}
	}
}

// The array of times is made once: neither the order of calls nor many callers at once may be seen in an answer.
func TestPromise1CodesAreAlikeAtEachCall(t *testing.T) {
	var callers sync.WaitGroup
	for i := range 4 {
		callers.Go(func() {
			for j := range timeCodes {
				code := (j*(2*i+1) + 50*i) % timeCodes
				impl.TimeCode(wantTime(timeCodes - 1 - code))
				impl.TimeOf(-code)
				if n, e := impl.TimeOf(code); n != wantTime(code) || e != impl.OK {
					t.Errorf("TimeOf(%d) = %d, %d", code, n, e)
				}
			}
		})
	}
	callers.Wait()
}
