package tests

import (
	"slices"
	"testing"

	"loop.example/g00419/impl"
)

// markCalls has the calls that answer marks, with arguments for which they keep all or some of them, or none.
var markCalls = []setCall{
	{"DupMark of the least", func(l []impl.Tuple) ([]impl.Tuple, int) { return impl.DupMark(l, 1, 0, 47, true) }},
	{"DupMark of one in the middle", func(l []impl.Tuple) ([]impl.Tuple, int) { return impl.DupMark(l, 3, 6, 47, false) }},
	{"DupMark of one that may be there", func(l []impl.Tuple) ([]impl.Tuple, int) { return impl.DupMark(l, 3, 5, 47, true) }},
	{"DupMark of another one", func(l []impl.Tuple) ([]impl.Tuple, int) { return impl.DupMark(l, 4, 2, 47, false) }},
	{"DupMark of one that is odd", func(l []impl.Tuple) ([]impl.Tuple, int) { return impl.DupMark(l, 4, 3, 47, true) }},
	{"DupMark of the greatest", func(l []impl.Tuple) ([]impl.Tuple, int) { return impl.DupMark(l, 8, 65535, 47, true) }},
	{"DupMark with a wrong origin", func(l []impl.Tuple) ([]impl.Tuple, int) { return impl.DupMark(l, 9, 5, 47, true) }},
	{"DupMark with a wrong now", func(l []impl.Tuple) ([]impl.Tuple, int) { return impl.DupMark(l, 3, 5, -1, true) }},
}

func memoryMarks() [][]impl.Tuple {
	return append(memorySets(), plainMarks(), edgeMarks(), strayMarks(), fullMarks(), fullMarks()[:maxSet-1], longList(impl.MaxList+1))
}

func TestPromise1MarksStayAsTheyWere(t *testing.T) {
	checkSetsStay(t, memoryMarks(), markCalls, func(list []impl.Tuple) {
		impl.DupSeen(list, 3, 5, 10)
		impl.DupSeen(list, 1, 0, -1)
		for _, m := range []impl.Message{plainMessage(), helloMessages()[0], {}} {
			impl.MayForward(m, list, 3, 9)
			impl.MayForward(m, list, maxKey, -1)
		}
	})
}

// What is answered as it was (of a full set) is new memory, too.
func TestPromise1MarksThatAreAnsweredAreNewMemory(t *testing.T) {
	checkSetsAreNew(t, memoryMarks(), markCalls)
}

func TestPromise1MarksAreAlikeAtEachCall(t *testing.T) {
	d := &draws{117}
	wrongs, wrongMs := wrongSets(), wrongMessages()
	for i := range 1000 {
		dups, origin, seq, now, sent := d.marks(), 1+d.next(8), d.next(9), d.next(40), d.next(2) == 0
		m, selectors := d.message(), d.set(d.next(9))
		m.Type = impl.MeTc
		for range 2 {
			checkSeen(t, dups, origin, seq, now)
			checkMark(t, dups, origin, seq, now, sent)
			checkMay(t, m, selectors, origin, now)
			checkForwarded(t, m)
			impl.DupMark(dups, origin, seq, now, !sent)
			impl.DupMark(wrongs[i%len(wrongs)], origin, seq, now, sent)
			impl.DupMark(dups, origin, seq, -1, sent)
			impl.DupSeen(longList(impl.MaxList+1), origin, seq, now)
			impl.MayForward(wrongMs[i%len(wrongMs)], selectors, origin, now)
			impl.Forwarded(wrongMs[i%len(wrongMs)])
		}
	}
}

func TestPromise1MarkCallsAtOnceAnswerAlike(t *testing.T) {
	dups, selectors, m := fullMarks()[1:], plainSelectors(), plainMessage()
	want, _ := wantMark(dups, 4, 3, 10, true)
	done := make(chan bool)
	for range 8 {
		go func() {
			right := true
			for range 200 {
				got, _ := impl.DupMark(dups, 4, 3, 10, true)
				seen, sent, _ := impl.DupSeen(got, 4, 3, 39)
				may, _ := impl.MayForward(m, selectors, 3, 9)
				next, _ := impl.Forwarded(m)
				right = right && slices.Equal(got, want) && seen && sent && may && next == tcMessage(16, 5)
			}
			done <- right
		}()
	}
	for range 8 {
		if !<-done {
			t.Error("calls at once answer otherwise")
		}
	}
}
