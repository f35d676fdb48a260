package tests

import (
	"fmt"
	"strconv"
	"strings"
	"testing"

	"loop.example/g00419/impl"
)

// messageFields has each number of a message with its bounds, and a way to set it.
var messageFields = []struct {
	name      string
	low, high int
	set       func(m *impl.Message, n int)
}{
	{"Type", 1, 2, func(m *impl.Message, n int) { m.Type = n }},
	{"Origin", 1, 8, func(m *impl.Message, n int) { m.Origin = n }},
	{"Seq", 0, 65535, func(m *impl.Message, n int) { m.Seq = n }},
	{"HopLimit", 0, 255, func(m *impl.Message, n int) { m.HopLimit = n }},
	{"Hops", 0, 255, func(m *impl.Message, n int) { m.Hops = n }},
}

func plainMessage() impl.Message {
	return impl.Message{Type: impl.MeTc, Origin: 5, Seq: 0xabcd, HopLimit: 17, Hops: 4, Body: "body"}
}

// messageBytes lays a message out as chapter 2 tells it, each byte on its own.
func messageBytes(m impl.Message) string {
	n := 8 + len(m.Body)
	head := []byte{
		byte(m.Type),
		byte(n / 256), byte(n % 256),
		byte(m.Origin),
		byte(m.Seq / 256), byte(m.Seq % 256),
		byte(m.HopLimit),
		byte(m.Hops),
	}
	return string(head) + m.Body
}

// edgeMessages has every mix of the fields' least and greatest values with bodies at their edges.
func edgeMessages() []impl.Message {
	var list []impl.Message
	for mix := range 1 << len(messageFields) {
		for _, n := range []int{0, 1, 2, 119, 120} {
			m := impl.Message{Body: strings.Repeat("\xfe", n)}
			for i, f := range messageFields {
				if mix>>i&1 == 1 {
					f.set(&m, f.high)
				} else {
					f.set(&m, f.low)
				}
			}
			list = append(list, m)
		}
	}
	return list
}

// wrongMessages has messages with one fault each.
func wrongMessages() []impl.Message {
	list := []impl.Message{{}}
	for _, f := range messageFields {
		for _, n := range append([]int{f.low - 1, f.high + 1}, wildInts...) {
			if f.low <= n && n <= f.high {
				continue
			}
			m := plainMessage()
			f.set(&m, n)
			list = append(list, m)
		}
	}
	for _, n := range []int{121, 122, 128, 248, 256, 65528, impl.MaxText, impl.MaxText + 1, impl.MaxText + 9} {
		m := plainMessage()
		m.Body = strings.Repeat("b", n)
		list = append(list, m)
	}
	return list
}

func sayMessage(m impl.Message) string {
	return fmt.Sprintf("{%d %d %d %d %d, %d bytes}", m.Type, m.Origin, m.Seq, m.HopLimit, m.Hops, len(m.Body))
}

func checkReadBack(t *testing.T, m impl.Message) {
	t.Helper()
	want := messageBytes(m)
	b, code := impl.EncodeMessage(m)
	if string(b) != want || code != impl.OK {
		t.Fatalf("EncodeMessage(%s) = %q, %d", sayMessage(m), b, code)
	}
	back, n, code := impl.DecodeMessage(b)
	if back != m || n != len(want) || code != impl.OK {
		t.Fatalf("DecodeMessage(%q) = %s, %d, %d", b, sayMessage(back), n, code)
	}
	if !impl.MessageOK(m) {
		t.Fatalf("MessageOK(%s) = false", sayMessage(m))
	}
}

func checkNoMessage(t *testing.T, b []byte, want int) {
	t.Helper()
	mustNotPanic(t, "DecodeMessage", func() {
		m, n, code := impl.DecodeMessage(b)
		if m != (impl.Message{}) || n != 0 || code != want {
			t.Errorf("DecodeMessage(%.20q), %d bytes: %s, %d, %d, want code %d", b, len(b), sayMessage(m), n, code, want)
		}
	})
}

func TestPromise2MessageBytesByHand(t *testing.T) {
	for _, x := range []struct {
		m    impl.Message
		want string
	}{
		{impl.Message{Type: 1, Origin: 1}, "\x01\x00\x08\x01\x00\x00\x00\x00"},
		{impl.Message{Type: 2, Origin: 8, Seq: 65535, HopLimit: 255, Hops: 255}, "\x02\x00\x08\x08\xff\xff\xff\xff"},
		{impl.Message{Type: 1, Origin: 2, Seq: 0x1234, HopLimit: 3, Hops: 4, Body: "\x00\xff"}, "\x01\x00\x0a\x02\x12\x34\x03\x04\x00\xff"},
		{impl.Message{Type: 2, Origin: 3, Seq: 256, HopLimit: 1, Body: strings.Repeat("z", 120)}, "\x02\x00\x80\x03\x01\x00\x01\x00" + strings.Repeat("z", 120)},
	} {
		b, code := impl.EncodeMessage(x.m)
		if string(b) != x.want || code != impl.OK {
			t.Errorf("EncodeMessage(%s) = %q, %d", sayMessage(x.m), b, code)
		}
		checkReadBack(t, x.m)
	}
}

func TestPromise2MessagesAreReadBack(t *testing.T) {
	for _, m := range edgeMessages() {
		checkReadBack(t, m)
	}
	for n := range 121 {
		m := plainMessage()
		m.Body = strings.Repeat("\x80", n)
		checkReadBack(t, m)
	}
	for seq := range 65536 {
		m := plainMessage()
		m.Seq = seq
		checkReadBack(t, m)
	}
	d := &draws{1}
	for range 2000 {
		checkReadBack(t, d.message())
	}
}

func TestPromise2CutMessages(t *testing.T) {
	for _, m := range edgeMessages() {
		whole := []byte(messageBytes(m))
		for n := range whole {
			checkNoMessage(t, whole[:n], impl.ErrForm)
			// What is cut off must not be read from behind the end either.
			checkNoMessage(t, whole[:n:n], impl.ErrForm)
		}
	}
}

func TestPromise2DrawnOutMessages(t *testing.T) {
	for _, m := range edgeMessages() {
		whole := messageBytes(m)
		for _, more := range []string{"\x00", "x", "\x01\x00\x08", whole, strings.Repeat("\xff", 700)} {
			back, n, code := impl.DecodeMessage([]byte(whole + more))
			if back != m || n != len(whole) || code != impl.OK {
				t.Errorf("%s and %d bytes more: %s, %d, %d", sayMessage(m), len(more), sayMessage(back), n, code)
			}
		}
	}
}

func TestPromise2MessageLengths(t *testing.T) {
	b := []byte(messageBytes(plainMessage()) + strings.Repeat("q", impl.MaxText))[:impl.MaxText]
	for n := range 65536 {
		b[1], b[2] = byte(n>>8), byte(n)
		if n < 8 || n > 128 {
			checkNoMessage(t, b, impl.ErrForm)
			continue
		}
		m, got, code := impl.DecodeMessage(b)
		if m.Body != string(b[8:n]) || got != n || code != impl.OK {
			t.Errorf("length %d: %s, %d, %d", n, sayMessage(m), got, code)
		}
	}
}

func TestPromise2EachByteOfAMessage(t *testing.T) {
	whole := messageBytes(plainMessage())
	for i := range whole {
		for c := range 256 {
			b := []byte(whole)
			b[i] = byte(c)
			right := true
			switch i {
			case 0:
				right = c == 1 || c == 2
			case 1:
				right = c == 0
			case 2:
				right = 8 <= c && c <= len(whole)
			case 3:
				right = 1 <= c && c <= 8
			}
			if !right {
				checkNoMessage(t, b, impl.ErrForm)
				continue
			}
			m, n, code := impl.DecodeMessage(b)
			if code != impl.OK || messageBytes(m) != string(b[:n]) {
				t.Errorf("byte %d is %d: %s, %d, %d", i, c, sayMessage(m), n, code)
			}
		}
	}
}

func TestPromise1LongBytesOfMessages(t *testing.T) {
	right := messageBytes(plainMessage())
	for _, n := range []int{impl.MaxText - 1, impl.MaxText} {
		b := []byte(right + strings.Repeat("\x00", n-len(right)))
		if m, got, code := impl.DecodeMessage(b); m != plainMessage() || got != len(right) || code != impl.OK {
			t.Errorf("%d bytes: %s, %d, %d", n, sayMessage(m), got, code)
		}
		checkNoMessage(t, make([]byte, n), impl.ErrForm)
	}
	for _, n := range []int{impl.MaxText + 1, impl.MaxText + 2, 1 << 20} {
		checkNoMessage(t, []byte(right+strings.Repeat("\x00", n-len(right))), impl.ErrLong)
		checkNoMessage(t, make([]byte, n), impl.ErrLong)
	}
	checkNoMessage(t, nil, impl.ErrForm)
	checkNoMessage(t, []byte{}, impl.ErrForm)
}

func TestPromise1WrongMessages(t *testing.T) {
	for _, m := range wrongMessages() {
		mustNotPanic(t, sayMessage(m), func() {
			if impl.MessageOK(m) {
				t.Errorf("MessageOK(%s)", sayMessage(m))
			}
			if b, code := impl.EncodeMessage(m); len(b) != 0 || code != impl.ErrBad {
				t.Errorf("EncodeMessage(%s) = %.20q, %d", sayMessage(m), b, code)
			}
			if s, code := impl.MessageText(m); s != "" || code != impl.ErrBad {
				t.Errorf("MessageText(%s) = %.20q, %d", sayMessage(m), s, code)
			}
		})
	}
}

func TestPromise1FieldBounds(t *testing.T) {
	for _, f := range messageFields {
		for _, n := range append([]int{f.low - 1, f.low, f.low + 1, f.high - 1, f.high, f.high + 1}, wildInts...) {
			m := plainMessage()
			f.set(&m, n)
			if got := impl.MessageOK(m); got != (f.low <= n && n <= f.high) {
				t.Errorf("MessageOK with %s %d: %v", f.name, n, got)
			}
		}
	}
}

func TestPromise1MessageText(t *testing.T) {
	for _, x := range []struct {
		m    impl.Message
		want string
	}{
		{impl.Message{Type: impl.MeHello, Origin: 1, HopLimit: 1}, "hello 1 0 1 0 0"},
		{impl.Message{Type: impl.MeTc, Origin: 8, Seq: 65535, HopLimit: 255, Hops: 254, Body: strings.Repeat("\n", 120)}, "tc 8 65535 255 254 120"},
		{impl.Message{Type: impl.MeHello, Origin: 2, Seq: 3, HopLimit: 4, Hops: 5, Body: "123456"}, "hello 2 3 4 5 6"},
		{impl.Message{Type: impl.MeTc, Origin: 6, Seq: 5, HopLimit: 4, Hops: 3, Body: "\u00e9"}, "tc 6 5 4 3 2"},
	} {
		if got, code := impl.MessageText(x.m); got != x.want || code != impl.OK {
			t.Errorf("MessageText(%s) = %q, %d", sayMessage(x.m), got, code)
		}
	}
	for _, m := range edgeMessages() {
		words := []string{"hello"}
		if m.Type == 2 {
			words[0] = "tc"
		}
		for _, n := range []int{m.Origin, m.Seq, m.HopLimit, m.Hops, len(m.Body)} {
			words = append(words, strconv.Itoa(n))
		}
		if got, code := impl.MessageText(m); got != strings.Join(words, " ") || code != impl.OK {
			t.Errorf("MessageText(%s) = %q, %d", sayMessage(m), got, code)
		}
	}
}
