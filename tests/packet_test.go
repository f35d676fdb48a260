package tests

import (
	"slices"
	"strings"
	"testing"

	"loop.example/g00419/impl"
)

// packetBytes lays a packet out as chapter 2 tells it, whatever the number of its messages.
func packetBytes(list []impl.Message) string {
	text := "\x00" + string([]byte{byte(len(list))})
	for _, m := range list {
		text += messageBytes(m)
	}
	return text
}

func checkPacket(t *testing.T, list []impl.Message) {
	t.Helper()
	want := packetBytes(list)
	b, code := impl.EncodePacket(list)
	if string(b) != want || code != impl.OK {
		t.Fatalf("EncodePacket of %d messages: %q, %d", len(list), b, code)
	}
	back, code := impl.DecodePacket(b)
	if !slices.Equal(back, list) || code != impl.OK {
		t.Fatalf("DecodePacket(%q) = %v, %d", b, back, code)
	}
	if !impl.PacketOK(list) {
		t.Fatalf("PacketOK of %d messages", len(list))
	}
}

func checkNoPacket(t *testing.T, b []byte, want int) {
	t.Helper()
	mustNotPanic(t, "DecodePacket", func() {
		if list, code := impl.DecodePacket(b); len(list) != 0 || code != want {
			t.Errorf("DecodePacket(%.20q), %d bytes: %d messages, %d, want code %d", b, len(b), len(list), code, want)
		}
	})
}

func checkWrongPacket(t *testing.T, list []impl.Message, want int) {
	t.Helper()
	mustNotPanic(t, "EncodePacket", func() {
		if impl.PacketOK(list) {
			t.Errorf("PacketOK of %d messages", len(list))
		}
		if b, code := impl.EncodePacket(list); len(b) != 0 || code != want {
			t.Errorf("EncodePacket of %d messages: %.20q, %d, want code %d", len(list), b, code, want)
		}
	})
}

func TestPromise2PacketBytesByHand(t *testing.T) {
	a := impl.Message{Type: 1, Origin: 4, Seq: 258, HopLimit: 1, Body: "hi"}
	b := impl.Message{Type: 2, Origin: 7, Seq: 3, HopLimit: 255, Hops: 9}
	want := "\x00\x03" + "\x01\x00\x0a\x04\x01\x02\x01\x00hi" + "\x02\x00\x08\x07\x00\x03\xff\x09" + "\x01\x00\x0a\x04\x01\x02\x01\x00hi"
	if got, code := impl.EncodePacket([]impl.Message{a, b, a}); string(got) != want || code != impl.OK {
		t.Errorf("EncodePacket: %q, %d", got, code)
	}
	if got, code := impl.DecodePacket([]byte(want)); !slices.Equal(got, []impl.Message{a, b, a}) || code != impl.OK {
		t.Errorf("DecodePacket: %v, %d", got, code)
	}
}

func TestPromise2PacketsAreReadBack(t *testing.T) {
	edges := edgeMessages()
	for i := range edges {
		checkPacket(t, edges[i:i+1])
		for n := 2; n <= 6; n++ {
			var list []impl.Message
			for k := range n {
				list = append(list, edges[(i+k*7)%len(edges)])
			}
			checkPacket(t, list)
		}
	}
	d := &draws{2}
	for range 1000 {
		checkPacket(t, d.messages(1+d.next(6)))
	}
}

func TestPromise2GreatestPacket(t *testing.T) {
	m := plainMessage()
	m.Body = strings.Repeat("\xff", 120)
	list := slices.Repeat([]impl.Message{m}, 6)
	checkPacket(t, list)
	if b, _ := impl.EncodePacket(list); len(b) != 770 {
		t.Errorf("the greatest packet has %d bytes", len(b))
	}
}

func TestPromise2CutAndDrawnOutPackets(t *testing.T) {
	d := &draws{3}
	for count := 1; count <= 6; count++ {
		list := d.messages(count)
		whole := []byte(packetBytes(list))
		for n := range whole {
			checkNoPacket(t, whole[:n], impl.ErrForm)
			checkNoPacket(t, whole[:n:n], impl.ErrForm)
		}
		for _, more := range []string{"\x00", "\xff", messageBytes(plainMessage()), string(whole), strings.Repeat("\x00", 900)} {
			checkNoPacket(t, append(slices.Clone(whole), more...), impl.ErrForm)
		}
	}
}

func TestPromise2PacketHeads(t *testing.T) {
	d := &draws{4}
	for count := range 9 {
		list := d.messages(count)
		for c := range 256 {
			b := []byte(packetBytes(list))
			b[1] = byte(c)
			if c != count || count < 1 || count > 6 {
				checkNoPacket(t, b, impl.ErrForm)
			} else if got, code := impl.DecodePacket(b); !slices.Equal(got, list) || code != impl.OK {
				t.Errorf("DecodePacket of %d messages: %d, %d", count, len(got), code)
			}
			if c > 0 {
				b[0], b[1] = byte(c), byte(count)
				checkNoPacket(t, b, impl.ErrForm)
			}
		}
	}
}

func TestPromise2WrongMessageInPacket(t *testing.T) {
	d := &draws{5}
	wrongs := []string{"\x00\x00\x08\x01\x00\x00\x00\x00", "\x03\x00\x08\x01\x00\x00\x00\x00", "\x01\x00\x08\x00\x00\x00\x00\x00", "\x01\x00\x08\x09\x00\x00\x00\x00", "\x01\x00\x07\x01\x00\x00\x00", "\x01\x00\x81\x01\x00\x00\x00\x00" + strings.Repeat("b", 121), "\x01\x01\x08\x01\x00\x00\x00\x00"}
	for count := 1; count <= 6; count++ {
		for place := range count {
			for _, wrong := range wrongs {
				text := "\x00" + string([]byte{byte(count)})
				for i := range count {
					if i == place {
						text += wrong
					} else {
						text += messageBytes(d.message())
					}
				}
				checkNoPacket(t, []byte(text), impl.ErrForm)
			}
		}
	}
}

func TestPromise2DrawnBytes(t *testing.T) {
	d := &draws{6}
	for range 20000 {
		b := []byte(packetBytes(d.messages(1 + d.next(3))))
		for range 1 + d.next(3) {
			b[d.next(len(b))] = byte(d.next(256))
		}
		mustNotPanic(t, "DecodePacket", func() {
			list, code := impl.DecodePacket(b)
			if code == impl.OK {
				if !impl.PacketOK(list) || packetBytes(list) != string(b) {
					t.Errorf("DecodePacket(%q) = %v", b, list)
				}
			} else if len(list) != 0 || code != impl.ErrForm {
				t.Errorf("DecodePacket(%q) = %v, %d", b, list, code)
			}
		})
	}
}

func TestPromise1LongBytesOfPackets(t *testing.T) {
	right := packetBytes([]impl.Message{plainMessage()})
	for _, n := range []int{771, 1000, impl.MaxText - 1, impl.MaxText} {
		checkNoPacket(t, make([]byte, n), impl.ErrForm)
		checkNoPacket(t, []byte(right+strings.Repeat("\x00", n-len(right))), impl.ErrForm)
	}
	for _, n := range []int{impl.MaxText + 1, impl.MaxText + 2, 1 << 20} {
		checkNoPacket(t, make([]byte, n), impl.ErrLong)
		checkNoPacket(t, []byte(right+strings.Repeat("\x00", n-len(right))), impl.ErrLong)
	}
	checkNoPacket(t, nil, impl.ErrForm)
	checkNoPacket(t, []byte{}, impl.ErrForm)
}

func TestPromise1WrongPackets(t *testing.T) {
	checkWrongPacket(t, nil, impl.ErrBad)
	checkWrongPacket(t, []impl.Message{}, impl.ErrBad)
	for _, n := range []int{7, 8, 255, 256, 257, 262, impl.MaxList - 1, impl.MaxList} {
		checkWrongPacket(t, slices.Repeat([]impl.Message{plainMessage()}, n), impl.ErrBad)
		checkWrongPacket(t, make([]impl.Message, n), impl.ErrBad)
	}
	for _, n := range []int{impl.MaxList + 1, impl.MaxList + 6, 65536 + 1} {
		checkWrongPacket(t, slices.Repeat([]impl.Message{plainMessage()}, n), impl.ErrLong)
		checkWrongPacket(t, make([]impl.Message, n), impl.ErrLong)
	}
	for _, wrong := range wrongMessages() {
		for n := 1; n <= 6; n++ {
			for place := range n {
				list := slices.Repeat([]impl.Message{plainMessage()}, n)
				list[place] = wrong
				checkWrongPacket(t, list, impl.ErrBad)
			}
		}
	}
}
