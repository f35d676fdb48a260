package impl

import "strconv"

const (
	MaxAddr     = 8
	MaxMessages = 6
	MaxBody     = 120
)

const (
	MeHello = iota + 1
	MeTc
)

// Places in a message's head: a field of two bytes has a nameless line behind it, so that iota counts bytes.
const (
	atType = iota
	atLength
	_
	atOrigin
	atSeq
	_
	atHopLimit
	atHops
	messageHead
)

// Places in a packet's head.
const (
	atZero = iota
	atCount
	packetHead
)

const (
	maxByte    = 1<<8 - 1
	maxTwo     = 1<<16 - 1
	maxMessage = messageHead + MaxBody
)

type Message struct {
	Type, Origin, Seq int
	HopLimit, Hops    int
	Body              string
}

func MessageOK(m Message) bool {
	return within(m.Type, MeHello, MeTc) &&
		isAddress(m.Origin) &&
		isSeq(m.Seq) &&
		within(m.HopLimit, 0, maxByte) &&
		within(m.Hops, 0, maxByte) &&
		len(m.Body) <= MaxBody
}

func EncodeMessage(m Message) ([]byte, int) {
	if !MessageOK(m) {
		return nil, ErrBad
	}
	return appendMessage(make([]byte, 0, messageHead+len(m.Body)), m), OK
}

func DecodeMessage(b []byte) (Message, int, int) {
	if len(b) > MaxText {
		return Message{}, 0, ErrLong
	}
	m, n, ok := readMessage(b)
	if !ok {
		return Message{}, 0, ErrForm
	}
	return m, n, OK
}

func PacketOK(list []Message) bool {
	if !within(len(list), 1, MaxMessages) {
		return false
	}
	for _, m := range list {
		if !MessageOK(m) {
			return false
		}
	}
	return true
}

func EncodePacket(list []Message) ([]byte, int) {
	if len(list) > MaxList {
		return nil, ErrLong
	}
	if !PacketOK(list) {
		return nil, ErrBad
	}
	b := make([]byte, packetHead, packetHead+len(list)*maxMessage)
	b[atCount] = byte(len(list))
	for _, m := range list {
		b = appendMessage(b, m)
	}
	return b, OK
}

func DecodePacket(b []byte) ([]Message, int) {
	if len(b) > MaxText {
		return nil, ErrLong
	}
	if len(b) < packetHead || b[atZero] != 0 {
		return nil, ErrForm
	}
	list, ok := readMessages(b[packetHead:], int(b[atCount]))
	if !ok {
		return nil, ErrForm
	}
	return list, OK
}

func MessageText(m Message) (string, int) {
	if !MessageOK(m) {
		return "", ErrBad
	}
	text := typeWord(m.Type)
	for _, n := range [...]int{m.Origin, m.Seq, m.HopLimit, m.Hops, len(m.Body)} {
		text += " " + strconv.Itoa(n)
	}
	return text, OK
}

func isAddress(n int) bool {
	return within(n, 1, MaxAddr)
}

func isSeq(n int) bool {
	return within(n, 0, maxTwo)
}

func typeWord(kind int) string {
	if kind == MeHello {
		return "hello"
	}
	return "tc"
}

func appendMessage(b []byte, m Message) []byte {
	b = append(b, byte(m.Type))
	b = appendTwo(b, messageHead+len(m.Body))
	b = append(b, byte(m.Origin))
	b = appendTwo(b, m.Seq)
	b = append(b, byte(m.HopLimit), byte(m.Hops))
	return append(b, m.Body...)
}

func readMessage(b []byte) (Message, int, bool) {
	if len(b) < messageHead {
		return Message{}, 0, false
	}
	// The length is told by whoever sent the bytes: no slice is cut by it until it is known to fit.
	n := twoAt(b, atLength)
	if !within(n, messageHead, min(maxMessage, len(b))) {
		return Message{}, 0, false
	}
	m := Message{
		Type:     int(b[atType]),
		Origin:   int(b[atOrigin]),
		Seq:      twoAt(b, atSeq),
		HopLimit: int(b[atHopLimit]),
		Hops:     int(b[atHops]),
		Body:     string(b[messageHead:n]),
	}
	if !MessageOK(m) {
		return Message{}, 0, false
	}
	return m, n, true
}

func readMessages(b []byte, count int) ([]Message, bool) {
	if !within(count, 1, MaxMessages) {
		return nil, false
	}
	list := make([]Message, 0, count)
	for range count {
		m, n, ok := readMessage(b)
		if !ok {
			return nil, false
		}
		list = append(list, m)
		b = b[n:]
	}
	// What is left over makes it no packet at all, not a packet with something behind it.
	return list, len(b) == 0
}

func appendTwo(b []byte, n int) []byte {
	return append(b, byte(n>>8), byte(n))
}

func twoAt(b []byte, i int) int {
	return int(b[i])<<8 | int(b[i+1])
}
