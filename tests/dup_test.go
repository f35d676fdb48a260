package tests

import (
	"slices"
	"testing"

	"loop.example/g00419/impl"
)

const dupHold = 30

func plainMarks() []impl.Tuple {
	return []impl.Tuple{
		{Key: 1*65536 + 65535, Until: 20, Value: 1},
		{Key: 3*65536 + 5, Until: 40},
		{Key: 3*65536 + 7, Until: 31, Value: 1},
		{Key: 8*65536 + 0, Until: 25},
	}
}

// edgeMarks have the least and the greatest of all that a mark may have.
func edgeMarks() []impl.Tuple {
	return []impl.Tuple{
		{Key: 1 * 65536}, {Key: 1*65536 + 65535, Until: maxTime, Value: 1}, {Key: 2 * 65536, Until: 1},
		{Key: 8 * 65536, Until: 1, Value: 1}, {Key: 8*65536 + 65535, Until: maxTime},
	}
}

// strayMarks are a right set whose keys are of no address: a set is held to chapter 4 alone.
func strayMarks() []impl.Tuple {
	return []impl.Tuple{
		{Until: 20, Value: 1}, {Key: 5, Until: 20, Value: 1}, {Key: 65535, Until: 20, Value: 1},
		{Key: 3*65536 + 5, Until: 20}, {Key: 9 * 65536, Until: 20, Value: 1}, {Key: 15*65536 + 5, Until: 20, Value: 1}, {Key: maxKey, Until: maxTime, Value: maxTime},
	}
}

// fullMarks have as many as there can be, eight of each origin, with Seq 0, 2, 4 and so on.
func fullMarks() []impl.Tuple {
	var list []impl.Tuple
	for i := range maxSet {
		list = append(list, impl.Tuple{Key: 65536*(1+i/8) + 2*(i%8), Until: 10 + i, Value: i % 2})
	}
	return list
}

// marks draws a set whose origins and Seqs lie close together, so that drawn ones often are there.
func (d *draws) marks() []impl.Tuple {
	var list []impl.Tuple
	of := 1 + d.next(4)
	for origin := 1; origin <= 8; origin++ {
		for seq := range 8 {
			if d.next(of) == 0 {
				list = append(list, impl.Tuple{Key: 65536*origin + seq, Until: d.next(40), Value: d.next(2)})
			}
		}
	}
	return list
}

func markSets() [][]impl.Tuple {
	sets := append(rightSets(), plainMarks(), edgeMarks(), strayMarks(), fullMarks(), fullMarks()[:maxSet-1], fullMarks()[1:])
	d := &draws{111}
	for range 50 {
		sets = append(sets, d.marks())
	}
	return sets
}

// wantSeen goes through all tuples and asks of each what chapter 11 says of it.
func wantSeen(dups []impl.Tuple, origin, seq, now int) (bool, bool) {
	seen, sent := false, false
	for _, x := range dups {
		if x.Key == origin*65536+seq && x.Until > now {
			seen, sent = true, x.Value == 1
		}
	}
	return seen, sent
}

func wantMark(dups []impl.Tuple, origin, seq, now int, sent bool) ([]impl.Tuple, int) {
	x := impl.Tuple{Key: origin*65536 + seq, Until: now + dupHold}
	if sent {
		x.Value = 1
	}
	if len(dups) == maxSet && !hasKey(dups, x.Key) {
		return dups, impl.ErrFull
	}
	return wantPut(dups, x), impl.OK
}

func checkSeen(t *testing.T, dups []impl.Tuple, origin, seq, now int) {
	t.Helper()
	known, passed := wantSeen(dups, origin, seq, now)
	if seen, sent, code := impl.DupSeen(dups, origin, seq, now); seen != known || sent != passed || code != impl.OK {
		t.Fatalf("DupSeen(%v, %d, %d, %d) = %v, %v, %d, not %v, %v", dups, origin, seq, now, seen, sent, code, known, passed)
	}
}

// checkMark asks for the mark and for all others, and that what was marked is known till its time.
func checkMark(t *testing.T, dups []impl.Tuple, origin, seq, now int, sent bool) []impl.Tuple {
	t.Helper()
	want, wantCode := wantMark(dups, origin, seq, now, sent)
	got, code := impl.DupMark(dups, origin, seq, now, sent)
	if !slices.Equal(got, want) || code != wantCode || !impl.SetOK(got) {
		t.Fatalf("DupMark(%v, %d, %d, %d, %v) = %v, %d, not %v, %d", dups, origin, seq, now, sent, got, code, want, wantCode)
	}
	if code != impl.OK {
		return got
	}
	for _, c := range []struct {
		at    int
		known bool
	}{{now - 1, true}, {now, true}, {now + 1, true}, {now + dupHold - 1, true}, {now + dupHold, false}, {now + dupHold + 1, false}} {
		known, passed, code := impl.DupSeen(got, origin, seq, c.at)
		if known != c.known || passed != (c.known && sent) || code != impl.OK {
			t.Fatalf("%d %d was marked at %d (%v), but at %d it is %v, %v, %d", origin, seq, now, sent, c.at, known, passed, code)
		}
	}
	return got
}

func TestPromise11KeysByHand(t *testing.T) {
	for _, c := range []struct{ origin, seq, want int }{
		{1, 0, 65536}, {1, 1, 65537}, {1, 65535, 131071}, {2, 0, 131072}, {3, 5, 196613}, {8, 0, 524288}, {8, 65534, 589822}, {8, 65535, 589823},
	} {
		if got, code := impl.DupKey(c.origin, c.seq); got != c.want || code != impl.OK {
			t.Errorf("DupKey(%d, %d) = %d, %d, not %d", c.origin, c.seq, got, code, c.want)
		}
	}
}

func TestPromise11EachKey(t *testing.T) {
	want := 65536
	for origin := 1; origin <= 8; origin++ {
		for seq := range 65536 {
			if got, code := impl.DupKey(origin, seq); got != want || code != impl.OK {
				t.Fatalf("DupKey(%d, %d) = %d, %d, not %d", origin, seq, got, code, want)
			}
			want++
		}
	}
}

func TestPromise11MarksByHand(t *testing.T) {
	p := plainMarks()
	at := func(origin, seq, value int) impl.Tuple {
		return impl.Tuple{Key: 65536*origin + seq, Until: 42, Value: value}
	}
	for _, c := range []struct {
		what        string
		dups        []impl.Tuple
		origin, seq int
		sent        bool
		want        []impl.Tuple
	}{
		{"a first one that was seen", nil, 3, 5, false, []impl.Tuple{at(3, 5, 0)}},
		{"a first one that was passed on", nil, 3, 5, true, []impl.Tuple{at(3, 5, 1)}},
		{"a new one ahead of others", p, 1, 65534, false, []impl.Tuple{at(1, 65534, 0), p[0], p[1], p[2], p[3]}},
		{"a new one between others", p, 3, 6, true, []impl.Tuple{p[0], p[1], at(3, 6, 1), p[2], p[3]}},
		{"a new one behind others", p, 8, 65535, true, []impl.Tuple{p[0], p[1], p[2], p[3], at(8, 65535, 1)}},
		{"another origin's number", p, 5, 5, false, []impl.Tuple{p[0], p[1], p[2], at(5, 5, 0), p[3]}},
		{"seen, then passed on", p, 3, 5, true, []impl.Tuple{p[0], at(3, 5, 1), p[2], p[3]}},
		{"seen, then seen", p, 3, 5, false, []impl.Tuple{p[0], at(3, 5, 0), p[2], p[3]}},
		{"passed on, then seen", p, 3, 7, false, []impl.Tuple{p[0], p[1], at(3, 7, 0), p[3]}},
		{"passed on, then passed on", p, 3, 7, true, []impl.Tuple{p[0], p[1], at(3, 7, 1), p[3]}},
		{"the first one anew", p, 1, 65535, false, []impl.Tuple{at(1, 65535, 0), p[1], p[2], p[3]}},
		{"the last one anew", p, 8, 0, true, []impl.Tuple{p[0], p[1], p[2], at(8, 0, 1)}},
	} {
		got, code := impl.DupMark(c.dups, c.origin, c.seq, 12, c.sent)
		checkTuples(t, c.what, got, code, c.want, impl.OK)
		checkMark(t, c.dups, c.origin, c.seq, 12, c.sent)
	}
}

func TestPromise11SeenByHand(t *testing.T) {
	for _, c := range []struct {
		origin, seq, now int
		seen, sent       bool
	}{
		{3, 5, 0, true, false}, {3, 5, 39, true, false}, {3, 5, 40, false, false}, {3, 5, 41, false, false},
		{3, 7, 0, true, true}, {3, 7, 30, true, true}, {3, 7, 31, false, false}, {3, 7, 32, false, false},
		{1, 65535, 19, true, true}, {1, 65535, 20, false, false}, {8, 0, 24, true, false}, {8, 0, 25, false, false},
		{3, 6, 0, false, false}, {3, 4, 0, false, false}, {3, 8, 0, false, false}, {2, 5, 0, false, false}, {4, 5, 0, false, false},
		{2, 65535, 0, false, false}, {2, 0, 0, false, false}, {1, 0, 0, false, false}, {8, 65535, 0, false, false}, {7, 65535, 0, false, false},
	} {
		if seen, sent, code := impl.DupSeen(plainMarks(), c.origin, c.seq, c.now); seen != c.seen || sent != c.sent || code != impl.OK {
			t.Errorf("DupSeen of %d %d at %d = %v, %v, %d", c.origin, c.seq, c.now, seen, sent, code)
		}
	}
}

// The one marked last counts, its time and whether it was passed on, also if it was marked at an earlier time.
func TestPromise11MarkedAnew(t *testing.T) {
	for _, times := range [][2]int{{10, 10}, {10, 11}, {11, 10}, {0, maxNow}, {maxNow, 0}, {10, 39}, {10, 40}, {10, 41}} {
		for mix := range 4 {
			first, then := mix&1 == 1, mix&2 == 2
			for _, others := range [][]impl.Tuple{nil, plainMarks(), strayMarks(), fullMarks()[1:]} {
				dups := checkMark(t, others, 4, 9, times[0], first)
				dups = checkMark(t, dups, 4, 9, times[1], then)
				if len(dups) != len(others)+1 {
					t.Errorf("one mark, made twice, is there as %d", len(dups)-len(others))
				}
				left, code := impl.SetDrop(dups, 65536*4+9)
				checkTuples(t, "others, of a mark that was made twice,", left, code, others, impl.OK)
			}
		}
	}
}

func TestPromise11NoMarkAtAll(t *testing.T) {
	for _, dups := range [][]impl.Tuple{nil, {}} {
		for origin := 1; origin <= 8; origin++ {
			for _, seq := range []int{0, 1, 65534, 65535} {
				for _, now := range []int{-1, 0, 1, maxNow} {
					if seen, sent, code := impl.DupSeen(dups, origin, seq, now); seen || sent || code != impl.OK {
						t.Errorf("DupSeen of none: %d %d at %d = %v, %v, %d", origin, seq, now, seen, sent, code)
					}
				}
				checkMark(t, dups, origin, seq, 0, true)
			}
		}
	}
}

func TestPromise11EdgesOfMarks(t *testing.T) {
	for _, dups := range [][]impl.Tuple{nil, plainMarks(), edgeMarks(), strayMarks(), fullMarks()} {
		for _, origin := range []int{1, 2, 7, 8} {
			for _, seq := range []int{0, 1, 65534, 65535} {
				for _, now := range []int{0, 1, maxNow - 1, maxNow} {
					checkMark(t, dups, origin, seq, now, false)
					checkMark(t, dups, origin, seq, now, true)
				}
				for _, now := range []int{-1, 0, 1, 2, maxNow, maxNow + 1, maxTime - 1, maxTime, maxTime + 1} {
					checkSeen(t, dups, origin, seq, now)
				}
			}
		}
	}
}

func TestPromise11EachTimeAroundUntil(t *testing.T) {
	for _, until := range []int{0, 1, 30, maxNow, maxNow + dupHold, maxTime - 1, maxTime} {
		for value := range 2 {
			dups := []impl.Tuple{{Key: 65536*3 + 4, Until: 5, Value: 1}, {Key: 65536*3 + 5, Until: until, Value: value}, {Key: 65536*3 + 6, Until: maxTime, Value: 1}}
			for _, now := range []int{until - 2, until - 1, until, until + 1} {
				seen, sent, code := impl.DupSeen(dups, 3, 5, now)
				if seen != (now < until) || sent != (now < until && value == 1) || code != impl.OK {
					t.Errorf("until %d, value %d, at %d: %v, %v, %d", until, value, now, seen, sent, code)
				}
			}
		}
	}
}

// A right set may have any Value: 1 alone says that it was passed on.
func TestPromise11OtherValuesWereSeenAlone(t *testing.T) {
	for _, value := range []int{0, 2, 3, 255, 256, 257, maxTime - 1, maxTime} {
		dups := []impl.Tuple{{Key: 65536*3 + 5, Until: 40, Value: value}}
		if seen, sent, code := impl.DupSeen(dups, 3, 5, 39); !seen || sent || code != impl.OK {
			t.Errorf("value %d: %v, %v, %d", value, seen, sent, code)
		}
		checkMark(t, dups, 3, 5, 10, true)
		checkMark(t, dups, 3, 6, 10, true)
	}
}

func TestPromise11AFullSetTakesOnlyMarksThatAreThere(t *testing.T) {
	full := fullMarks()
	for i, x := range full {
		for _, sent := range []bool{false, true} {
			want := slices.Clone(full)
			want[i].Until, want[i].Value = 41, 0
			if sent {
				want[i].Value = 1
			}
			got, code := impl.DupMark(full, x.Key/65536, x.Key%65536, 11, sent)
			checkTuples(t, "DupMark of one that is there", got, code, want, impl.OK)
			got, code = impl.DupMark(full, x.Key/65536, x.Key%65536+1, 11, sent)
			checkTuples(t, "DupMark of one that is not there", got, code, full, impl.ErrFull)
		}
	}
	for _, dups := range [][]impl.Tuple{longList(maxSet), fullSet()} {
		got, code := impl.DupMark(dups, 1, 0, 11, true)
		checkTuples(t, "DupMark among other keys", got, code, dups, impl.ErrFull)
	}
	got, code := impl.DupMark(full[1:], 1, 0, 11, true)
	checkTuples(t, "DupMark of the last that has room", got, code, append([]impl.Tuple{{Key: 65536, Until: 41, Value: 1}}, full[1:]...), impl.OK)
}

// Nothing is expired to make room: what is over goes by SetExpire alone.
func TestPromise11AFullSetStaysFullWhateverTheTime(t *testing.T) {
	full := fullMarks()
	for _, now := range []int{0, 10, 40, 73, 74, 1000, maxNow} {
		got, code := impl.DupMark(full, 4, 1, now, true)
		checkTuples(t, "DupMark of a full set", got, code, full, impl.ErrFull)
		left, _ := impl.SetExpire(full, now)
		checkMark(t, left, 4, 1, now, true)
	}
}

func TestPromise11RightSets(t *testing.T) {
	d := &draws{112}
	for _, dups := range markSets() {
		for origin := 1; origin <= 8; origin++ {
			for _, seq := range []int{0, 1, 5, 7, d.next(65536), 65535} {
				checkSeen(t, dups, origin, seq, d.next(42)-1)
				checkMark(t, dups, origin, seq, d.next(maxNow+1), d.next(2) == 0)
			}
		}
	}
}

// What was put into a set under a mark's key is just what a mark is.
func TestPromise11MarksAreTuples(t *testing.T) {
	d := &draws{113}
	for range 2000 {
		dups, origin, seq, now, sent := d.marks(), 1+d.next(8), d.next(9), d.next(40), d.next(2)
		key, _ := impl.DupKey(origin, seq)
		want, wantCode := impl.SetPut(dups, impl.Tuple{Key: key, Until: now + impl.DupHold, Value: sent})
		got, code := impl.DupMark(dups, origin, seq, now, sent == 1)
		checkTuples(t, "DupMark", got, code, want, wantCode)
	}
}

func TestPromise11ManyMarksOneAfterTheOther(t *testing.T) {
	d := &draws{114}
	var dups []impl.Tuple
	var full, known int
	for now := range 6000 {
		origin, seq := 1+d.next(8), (65500+now/3+d.next(12))%65536
		if seen, _, _ := impl.DupSeen(dups, origin, seq, now); seen {
			known++
		}
		if len(dups) == maxSet && !hasKey(dups, 65536*origin+seq) {
			full++
		}
		checkSeen(t, dups, origin, seq, now)
		dups = checkMark(t, dups, origin, seq, now, d.next(2) == 0)
		if d.next(40) == 0 {
			dups, _ = impl.SetExpire(dups, now)
		}
	}
	if full < 100 || known < 100 {
		t.Error("too few met a full set, or were known, to tell anything:", full, known)
	}
}
