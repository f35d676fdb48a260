package tests

import (
	"slices"
	"testing"

	"loop.example/g00419/impl"
)

// guardedHello answers a hello whose list stands in the middle of a greater array, and that array.
func guardedHello(h impl.Hello) (impl.Hello, []impl.Neighbor) {
	const margin = 40
	room := make([]impl.Neighbor, margin+len(h.List)+margin)
	for i := range room {
		room[i] = impl.Neighbor{Addr: -7, Status: -8, Metric: -9, Mpr: true}
	}
	copy(room[margin:], h.List)
	h.List = room[margin : margin+len(h.List)]
	return h, room
}

func TestPromise1HellosStayAsTheyWere(t *testing.T) {
	for _, given := range append(edgeHellos(), wrongHellos()...) {
		h, room := guardedHello(given)
		before := slices.Clone(room)
		impl.HelloOK(h)
		impl.EncodeHello(h)
		impl.NeighborOf(h, 2)
		impl.SymOf(h)
		impl.HelloText(h)
		if !slices.Equal(room, before) {
			t.Fatalf("a call wrote into its hello of %d neighbors, or around it", len(given.List))
		}
	}
}

func TestPromise1HelloAnswersAreNewMemory(t *testing.T) {
	for _, given := range edgeHellos() {
		text := helloBytes(given)
		one, _ := impl.DecodeHello(text)
		two, _ := impl.DecodeHello(text)
		clear(one.List[:cap(one.List)])
		if !sameHello(two, given) {
			t.Fatalf("two answers of DecodeHello(%q) share memory", text)
		}
		h, room := guardedHello(given)
		syms, _ := impl.SymOf(h)
		again, _ := impl.SymOf(h)
		x, _ := impl.NeighborOf(h, 8)
		written, _ := impl.EncodeHello(h)
		told, _ := impl.HelloText(h)
		want, wantX := slices.Clone(syms), x
		clear(again[:cap(again)])
		clear(room)
		if !slices.Equal(syms, want) || x != wantX || written != text || told != wantHelloText(given) {
			t.Fatalf("an answer of %v shares memory with another one, or with the hello", given)
		}
	}
}

func TestPromise1HellosAreAlikeAtEachCall(t *testing.T) {
	d := &draws{53}
	wrongs := wrongHellos()
	for i := range 500 {
		h := d.hello()
		checkHello(t, h)
		checkAsked(t, h)
		wrong := wrongs[i%len(wrongs)]
		impl.EncodeHello(wrong)
		impl.SymOf(wrong)
		impl.DecodeHello(d.text(d.next(300)))
		impl.DecodeHello(string(make([]byte, impl.MaxText+1)))
		checkHello(t, h)
		checkAsked(t, h)
	}
}

func TestPromise1HelloCallsAtOnceAnswerAlike(t *testing.T) {
	h := plainHello()
	want := helloBytes(h)
	done := make(chan bool)
	for range 8 {
		go func() {
			right := true
			for range 200 {
				text, _ := impl.EncodeHello(h)
				back, _ := impl.DecodeHello(want)
				syms, _ := impl.SymOf(h)
				right = right && text == want && sameHello(back, h) && slices.Equal(syms, []int{2, 4})
			}
			done <- right
		}()
	}
	for range 8 {
		if !<-done {
			t.Error("calls at once answer otherwise")
		}
	}
}
