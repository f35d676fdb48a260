package tests

import (
	"runtime"
	"slices"
	"strings"
	"testing"
	"time"

	"loop.example/g00419/impl"
)

// An answer has lists that can be told and wiped one by one, and numbers beside them.
type answer interface {
	lists() []string
	numbers() string
	wipe(i int)
}

// A guard is arguments whose memory can be kept, held against what was kept, wiped, and restored.
type guard[G any] interface {
	kept() G
	isAs(k G) bool
	wipe()
	restore(k G)
}

// checkNewMemory asks that an answer shares no memory with the arguments in g, nor with the next answer to them.
func checkNewMemory[G guard[G]](t *testing.T, what string, g G, call func() answer) {
	t.Helper()
	before := g.kept()
	a := call()
	want, numbers := a.lists(), a.numbers()
	again := call()
	g.wipe()
	if !slices.Equal(a.lists(), want) {
		t.Errorf("%s answers memory of an argument", what)
	}
	g.restore(before)
	for i := range want {
		a.wipe(i)
	}
	if !g.isAs(before) {
		t.Errorf("%s answers memory of an argument", what)
	}
	if !slices.Equal(again.lists(), want) || again.numbers() != numbers {
		t.Errorf("%s answers otherwise at its second call, or the same memory", what)
	}
}

// checkSharesNone asks that no two lists of one answer share memory.
func checkSharesNone(t *testing.T, what string, call func() answer) {
	t.Helper()
	want := call().lists()
	for i := range want {
		a := call()
		a.wipe(i)
		got := a.lists()
		got[i] = want[i]
		if !slices.Equal(got, want) {
			t.Errorf("%s: list %d shares memory with another one", what, i)
		}
	}
}

// checkAtOnce asks at the same time, again and again, whether all is right.
func checkAtOnce(t *testing.T, rounds int, isRight func() bool) {
	t.Helper()
	done := make(chan bool)
	for range 8 {
		go func() {
			right := true
			for range rounds {
				right = isRight() && right
			}
			done <- right
		}()
	}
	for range 8 {
		if !<-done {
			t.Error("calls at once answer otherwise")
		}
	}
}

// checkLeavesNothingRunning asks that all that a call began is at its end when it answers.
func checkLeavesNothingRunning(t *testing.T, call func()) {
	t.Helper()
	before := runtime.NumGoroutine()
	call()
	// One that is at its end is still counted for a moment.
	for range 200 {
		if runtime.NumGoroutine() <= before {
			return
		}
		time.Sleep(5 * time.Millisecond)
	}
	t.Errorf("%d are running, %d were ahead", runtime.NumGoroutine(), before)
}

func TestPromise1BytesStayAsTheyWere(t *testing.T) {
	d := &draws{7}
	for range 300 {
		packet := packetBytes(d.messages(1 + d.next(6)))
		for _, text := range []string{packet, packet[2:], packet[:d.next(len(packet))], packet + "x", d.text(d.next(400))} {
			b, written := guarded([]byte(text))
			impl.DecodePacket(b)
			impl.DecodeMessage(b)
			if written() {
				t.Fatalf("reading wrote into %q", text)
			}
		}
	}
}

func TestPromise1ListsStayAsTheyWere(t *testing.T) {
	d := &draws{8}
	for n := range 9 {
		room := d.messages(n + 3)
		if n > 0 {
			room[n/2].Hops = 300 * (n % 2)
		}
		before := slices.Clone(room)
		impl.EncodePacket(room[:n])
		impl.PacketOK(room[:n])
		if !slices.Equal(room, before) {
			t.Errorf("a list of %d messages was written into", n)
		}
	}
}

// scribble writes all that an answer of bytes holds, behind its end too.
func scribble(b []byte) {
	b = b[:cap(b)]
	for i := range b {
		b[i] = 0x5a
	}
}

func TestPromise1AnswersAreNewMemory(t *testing.T) {
	m := plainMessage()
	list := []impl.Message{m, {Type: 1, Origin: 1, Body: "other"}}
	one, _ := impl.EncodeMessage(m)
	two, _ := impl.EncodeMessage(m)
	scribble(one)
	if string(two) != messageBytes(m) {
		t.Error("two answers of EncodeMessage share memory")
	}
	p, _ := impl.EncodePacket(list)
	q, _ := impl.EncodePacket(list)
	scribble(p)
	if string(q) != packetBytes(list) {
		t.Error("two answers of EncodePacket share memory")
	}
	back, _ := impl.DecodePacket(q)
	first, _, _ := impl.DecodeMessage(q[2:])
	again, _ := impl.DecodePacket(q)
	scribble(q)
	if !slices.Equal(back, list) || first != m {
		t.Error("what was read shares memory with the bytes")
	}
	clear(again[:cap(again)])
	if !slices.Equal(back, list) {
		t.Error("two answers of DecodePacket share memory")
	}
}

func TestPromise1RightMessagesStayRightAfterWrongOnes(t *testing.T) {
	d := &draws{9}
	wrongs := wrongMessages()
	for i := range 500 {
		list := d.messages(1 + d.next(6))
		checkPacket(t, list)
		impl.EncodePacket([]impl.Message{wrongs[i%len(wrongs)]})
		impl.DecodePacket([]byte(d.text(d.next(300))))
		impl.DecodeMessage(make([]byte, impl.MaxText+1))
		impl.MessageText(wrongs[i%len(wrongs)])
		impl.CodeOf(strings.Repeat("w", i))
		checkPacket(t, list)
		checkReadBack(t, list[0])
	}
}

func TestPromise1CallsAtOnceAnswerAlike(t *testing.T) {
	list := (&draws{10}).messages(6)
	want := packetBytes(list)
	done := make(chan bool)
	for range 8 {
		go func() {
			right := true
			for range 200 {
				b, _ := impl.EncodePacket(list)
				back, _ := impl.DecodePacket([]byte(want))
				right = right && string(b) == want && slices.Equal(back, list)
			}
			done <- right
		}()
	}
	for range 8 {
		if !<-done {
			t.Error("calls at once answer otherwise")
		}
	}
}
