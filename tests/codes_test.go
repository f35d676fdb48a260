package tests

import (
	"strings"
	"testing"

	"loop.example/g00419/impl"
)

var codeTable = []struct {
	number, constant int
	word             string
}{
	{0, impl.OK, "ok"}, {1, impl.ErrBad, "bad"}, {2, impl.ErrLong, "long"}, {3, impl.ErrForm, "form"},
	{4, impl.ErrRange, "range"}, {5, impl.ErrNone, "none"}, {6, impl.ErrMany, "many"}, {7, impl.ErrFull, "full"},
	{8, impl.ErrTwice, "twice"}, {9, impl.ErrSelf, "self"}, {10, impl.ErrOld, "old"}, {11, impl.ErrStale, "stale"},
	{12, impl.ErrName, "name"}, {13, impl.ErrLoop, "loop"}, {14, impl.ErrPlace, "place"}, {15, impl.ErrBusy, "busy"},
	{16, impl.ErrLink, "link"}, {17, impl.ErrOrder, "order"}, {18, impl.ErrType, "type"}, {19, impl.ErrEnd, "end"},
}

func TestPromise1Limits(t *testing.T) {
	if impl.MaxText != 65536 || impl.MaxList != 4096 || impl.MaxName != 40 {
		t.Error("limits of chapter 1", impl.MaxText, impl.MaxList, impl.MaxName)
	}
	if impl.MaxAddr != 8 || impl.MaxBody != 120 || impl.MaxMessages != 6 {
		t.Error("limits of packets", impl.MaxAddr, impl.MaxBody, impl.MaxMessages)
	}
	if impl.MeHello != 1 || impl.MeTc != 2 {
		t.Error("types of messages", impl.MeHello, impl.MeTc)
	}
}

func TestPromise1CodesAndWords(t *testing.T) {
	for _, c := range codeTable {
		if c.number != c.constant {
			t.Errorf("constant of %q is %d, not %d", c.word, c.constant, c.number)
		}
		if got := impl.CodeWord(c.number); got != c.word {
			t.Errorf("CodeWord(%d) = %q", c.number, got)
		}
		if got := impl.CodeOf(c.word); got != c.number {
			t.Errorf("CodeOf(%q) = %d", c.word, got)
		}
	}
}

func TestPromise1NumbersWithoutWord(t *testing.T) {
	for _, n := range append([]int{20, 21, 256 + 3}, wildInts...) {
		if 0 <= n && n <= 19 {
			continue
		}
		mustNotPanic(t, "CodeWord", func() {
			if got := impl.CodeWord(n); got != "" {
				t.Errorf("CodeWord(%d) = %q", n, got)
			}
		})
	}
}

func TestPromise1TextsWithoutCode(t *testing.T) {
	texts := []string{"", " ", "0", "O", "OK", "Ok", "none such", "\x00", "ok\n", "error", "\xff\xfe"}
	for _, c := range codeTable {
		w := c.word
		texts = append(texts, w+" ", " "+w, w+"\x00", w[:len(w)-1], w[1:], w+w, strings.ToUpper(w))
	}
	for _, n := range []int{impl.MaxText - 1, impl.MaxText, impl.MaxText + 1, 1 << 20} {
		texts = append(texts, strings.Repeat("a", n), "ok"+strings.Repeat(" ", n-2))
	}
	for _, text := range texts {
		if got := impl.CodeOf(text); got != -1 {
			t.Errorf("CodeOf(%.20q), %d bytes: %d", text, len(text), got)
		}
	}
}

func nameByte(c int, first bool) bool {
	const letters = "abcdefghijklmnopqrstuvwxyzABCDEFGHIJKLMNOPQRSTUVWXYZ_"
	if strings.IndexByte(letters, byte(c)) >= 0 {
		return true
	}
	return !first && strings.IndexByte("0123456789", byte(c)) >= 0
}

func TestPromise1NameBytes(t *testing.T) {
	for c := range 256 {
		one := string([]byte{byte(c)})
		for _, x := range []struct {
			text string
			want bool
		}{
			{one, nameByte(c, true)},
			{one + "b", nameByte(c, true)},
			{"a" + one, nameByte(c, false)},
			{"_9" + one + "Z", nameByte(c, false)},
			{strings.Repeat("n", 39) + one, nameByte(c, false)},
		} {
			if got := impl.NameOK(x.text); got != x.want {
				t.Errorf("NameOK(%q) = %v", x.text, got)
			}
		}
	}
}

func TestPromise1NameLengths(t *testing.T) {
	for n := range 90 {
		if got := impl.NameOK(strings.Repeat("x", n)); got != (1 <= n && n <= 40) {
			t.Errorf("NameOK of %d bytes: %v", n, got)
		}
	}
	for _, n := range []int{256 + 1, impl.MaxText, impl.MaxText + 1, impl.MaxText + 40} {
		if impl.NameOK(strings.Repeat("x", n)) {
			t.Errorf("NameOK of %d bytes", n)
		}
	}
	// Bytes are counted, not letters as a reader sees them.
	if impl.NameOK("\u00e9") || impl.NameOK("a\u00e9") || impl.NameOK("\u0430") {
		t.Error("NameOK of letters beyond a to z")
	}
}
