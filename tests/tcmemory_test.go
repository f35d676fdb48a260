package tests

import (
	"slices"
	"testing"

	"loop.example/g00419/impl"
)

// guardedTc answers an advertisement whose list stands in the middle of a greater array, and that array.
func guardedTc(x impl.Tc) (impl.Tc, []impl.Edge) {
	const margin = 40
	room := make([]impl.Edge, margin+len(x.List)+margin)
	for i := range room {
		room[i] = impl.Edge{To: -7, Metric: -8}
	}
	copy(room[margin:], x.List)
	x.List = room[margin : margin+len(x.List)]
	return x, room
}

func TestPromise1TcsStayAsTheyWere(t *testing.T) {
	for _, given := range append(edgeTcs(), wrongTcs()...) {
		x, room := guardedTc(given)
		before := slices.Clone(room)
		impl.TcOK(x)
		impl.EncodeTc(x)
		impl.EdgeOf(x, 2)
		impl.TcText(x)
		if !slices.Equal(room, before) {
			t.Fatalf("a call wrote into its advertisement of %d edges, or around it", len(given.List))
		}
	}
}

func TestPromise1TcAnswersAreNewMemory(t *testing.T) {
	for _, given := range edgeTcs() {
		text := tcBytes(given)
		one, _ := impl.DecodeTc(text)
		two, _ := impl.DecodeTc(text)
		clear(one.List[:cap(one.List)])
		if !sameTc(two, given) {
			t.Fatalf("two answers of DecodeTc(%q) share memory", text)
		}
		x, room := guardedTc(given)
		written, _ := impl.EncodeTc(x)
		told, _ := impl.TcText(x)
		clear(room)
		if written != text || told != wantTcText(given) {
			t.Fatalf("an answer of %v shares memory with the advertisement", given)
		}
	}
}

func TestPromise1TcsAreAlikeAtEachCall(t *testing.T) {
	d := &draws{63}
	wrongs := wrongTcs()
	for i := range 500 {
		x := d.tc()
		checkTc(t, x)
		checkTcAsked(t, x)
		wrong := wrongs[i%len(wrongs)]
		impl.EncodeTc(wrong)
		impl.EdgeOf(wrong, 1)
		impl.DecodeTc(d.text(d.next(300)))
		impl.DecodeTc(string(make([]byte, impl.MaxText+1)))
		checkTc(t, x)
		checkTcAsked(t, x)
	}
}

func TestPromise1TcCallsAtOnceAnswerAlike(t *testing.T) {
	x := plainTc()
	want := tcBytes(x)
	done := make(chan bool)
	for range 8 {
		go func() {
			right := true
			for range 200 {
				text, _ := impl.EncodeTc(x)
				back, _ := impl.DecodeTc(want)
				n, _ := impl.EdgeOf(x, 4)
				right = right && text == want && sameTc(back, x) && n == 256
			}
			done <- right
		}()
	}
	for range 8 {
		if !<-done {
			t.Error("calls at once answer otherwise")
		}
	}
}
