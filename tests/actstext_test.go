package tests

import (
	"math"
	"regexp"
	"slices"
	"strconv"
	"strings"
	"testing"

	"loop.example/g00419/impl"
)

const (
	mostNumber  = 999999999999999999
	firstTooFar = 1000000000000000000
)

// toldNumbers have a text by chapter 1's rule.
var toldNumbers = []int{
	0, 1, -1, 2, 9, 10, -10, 11, 99, 100, 200, 201, 256, 257, 65535, 65536, 100000, 1 << 31, -(1 << 31), 1 << 40,
	123456789012345678, -123456789012345678, 100000000000000000, -100000000000000000, mostNumber, -mostNumber,
}

func sameAct(a, b impl.Act) bool {
	return a.Kind == b.Kind && a.A == b.A && a.B == b.B && a.N == b.N && slices.Equal(a.Lose, b.Lose) && a.Bytes == b.Bytes
}

func checkActText(t *testing.T, a impl.Act, want string) {
	t.Helper()
	mustNotPanic(t, "ActText", func() {
		if text, code := impl.ActText(a); text != want || code != impl.OK {
			t.Errorf("ActText(%s) = %q, %d, not %q", briefAct(a), text, code, want)
		}
	})
}

func checkNoText(t *testing.T, a impl.Act, want int) {
	t.Helper()
	mustNotPanic(t, "ActText", func() {
		if text, code := impl.ActText(a); text != "" || code != want {
			t.Errorf("ActText(%s) = %.80q, %d, not code %d", briefAct(a), text, code, want)
		}
	})
}

func checkReadAct(t *testing.T, text string, want impl.Act) {
	t.Helper()
	mustNotPanic(t, "ReadAct", func() {
		if a, code := impl.ReadAct(text); !sameAct(a, want) || code != impl.OK {
			t.Errorf("ReadAct(%.80q) = %s, %d, not %s", text, briefAct(a), code, briefAct(want))
		}
	})
}

func checkNoAct(t *testing.T, text string, want int) {
	t.Helper()
	mustNotPanic(t, "ReadAct", func() {
		if a, code := impl.ReadAct(text); !sameAct(a, impl.Act{}) || code != want {
			t.Errorf("ReadAct(%.80q) of %d bytes = %s, %d, not code %d", text, len(text), briefAct(a), code, want)
		}
	})
}

// checkToldAndRead asks for this text of an act, and for the act of this text.
func checkToldAndRead(t *testing.T, a impl.Act, text string) {
	t.Helper()
	checkActText(t, a, text)
	checkReadAct(t, text, a)
}

func TestPromise16TextsByHand(t *testing.T) {
	checkToldAndRead(t, ticksAct(5), "ticks 5")
	checkToldAndRead(t, ticksAct(0), "ticks 0")
	checkToldAndRead(t, ticksAct(-5), "ticks -5")
	checkToldAndRead(t, lossyAct(3, 0, 1, 1, 0), "lossy 3 0110")
	checkToldAndRead(t, lossyAct(-200, 1), "lossy -200 1")
	checkToldAndRead(t, lossyAct(0, 0), "lossy 0 0")
	checkToldAndRead(t, costAct(1, 2, 9), "cost 1 2 9")
	checkToldAndRead(t, costAct(-1, 0, 257), "cost -1 0 257")
	checkToldAndRead(t, restartAct(2, 100), "restart 2 100")
	checkToldAndRead(t, restartAct(0, -100), "restart 0 -100")
	checkToldAndRead(t, ticksAct(mostNumber), "ticks 999999999999999999")
	checkToldAndRead(t, restartAct(-mostNumber, 10), "restart -999999999999999999 10")
}

func signsWord(lose []int) string {
	var word strings.Builder
	for _, x := range lose {
		word.WriteString(strconv.Itoa(x))
	}
	return word.String()
}

func TestPromise16TextsOfEachNumber(t *testing.T) {
	for _, x := range toldNumbers {
		a := strconv.Itoa(x)
		checkToldAndRead(t, ticksAct(x), "ticks "+a)
		checkToldAndRead(t, lossyAct(x, 1, 0), "lossy "+a+" 10")
		for _, y := range toldNumbers {
			b := strconv.Itoa(y)
			checkToldAndRead(t, restartAct(x, y), "restart "+a+" "+b)
			for _, z := range toldNumbers {
				checkToldAndRead(t, costAct(x, y, z), "cost "+a+" "+b+" "+strconv.Itoa(z))
			}
		}
	}
	for x := -3000; x <= 3000; x++ {
		checkToldAndRead(t, ticksAct(x), "ticks "+strconv.Itoa(x))
	}
}

func TestPromise16TextsOfSigns(t *testing.T) {
	for size := 1; size <= maxActs; size++ {
		for _, lose := range [][]int{make([]int, size), slices.Repeat([]int{1}, size), signsOf(size)} {
			checkToldAndRead(t, lossyAct(7, lose...), "lossy 7 "+signsWord(lose))
		}
		for i := range size {
			lose := make([]int, size)
			lose[i] = 1
			checkToldAndRead(t, lossyAct(7, lose...), "lossy 7 "+signsWord(lose))
		}
	}
	for bits := range 1 << 9 {
		var lose []int
		for i := range 9 {
			lose = append(lose, bits>>i&1)
			checkToldAndRead(t, lossyAct(bits, lose...), "lossy "+strconv.Itoa(bits)+" "+signsWord(lose))
		}
	}
}

func TestPromise16SignsThatAreNotTold(t *testing.T) {
	for _, lose := range [][]int{nil, {}} {
		checkNoText(t, lossyAct(3, lose...), impl.ErrBad)
	}
	for _, size := range []int{maxActs + 1, maxActs + 2, 100, impl.MaxList, impl.MaxList + 1} {
		for _, x := range []int{0, 1, 2} {
			checkNoText(t, lossyAct(3, slices.Repeat([]int{x}, size)...), impl.ErrBad)
		}
	}
	for _, x := range wildInts {
		if x == 0 || x == 1 {
			continue
		}
		for _, size := range []int{1, 2, 5, maxActs} {
			for _, i := range []int{0, size / 2, size - 1} {
				lose := signsOf(size)
				lose[i] = x
				checkNoText(t, lossyAct(3, lose...), impl.ErrBad)
			}
		}
	}
}

func TestPromise16KindsWithoutAText(t *testing.T) {
	for _, kind := range wildNetInts {
		if 1 <= kind && kind <= 4 {
			continue
		}
		for _, a := range []impl.Act{{}, ticksAct(1), lossyAct(1, 1), lossyAct(1, 2), lossyAct(1), costAct(1, 2, 9), restartAct(1, 9), injectAct(1, 2, "zz"), lossyAct(1, signsOf(61)...)} {
			a.Kind = kind
			checkNoText(t, a, impl.ErrForm)
		}
	}
}

// What a kind does not tell makes no fault, and isn't read back.
func TestPromise16TextsTellWhatAKindNeeds(t *testing.T) {
	long := strings.Repeat("z", impl.MaxText+1)
	for _, lose := range [][]int{nil, {1, 0}, {7}, signsOf(61)} {
		for _, x := range []int{0, 3, -1, math.MinInt} {
			checkActText(t, impl.Act{Kind: impl.AcTicks, A: x, B: x, N: 4, Lose: lose, Bytes: long}, "ticks 4")
			checkActText(t, impl.Act{Kind: impl.AcLossy, A: x, B: x, N: 4, Lose: []int{1, 0}, Bytes: long}, "lossy 4 10")
			checkActText(t, impl.Act{Kind: impl.AcCost, A: 1, B: 2, N: 4, Lose: lose, Bytes: long}, "cost 1 2 4")
			checkActText(t, impl.Act{Kind: impl.AcRestart, A: 1, B: x, N: 4, Lose: lose, Bytes: long}, "restart 1 4")
		}
	}
}

// A number of more digits than a text of one may have is told with all of them, and not read back.
func TestPromise16NumbersOfTooManyDigits(t *testing.T) {
	for _, x := range []int{firstTooFar, -firstTooFar, math.MaxInt, math.MinInt, math.MaxInt - 1, math.MinInt + 1} {
		word := strconv.Itoa(x)
		for text, a := range map[string]impl.Act{
			"ticks " + word:                ticksAct(x),
			"lossy " + word + " 01":        lossyAct(x, 0, 1),
			"cost " + word + " 2 9":        costAct(x, 2, 9),
			"cost 1 " + word + " 9":        costAct(1, x, 9),
			"cost 1 2 " + word:             costAct(1, 2, x),
			"restart " + word + " 100":     restartAct(x, 100),
			"restart 2 " + word:            restartAct(2, x),
			"restart " + word + " " + word: restartAct(x, x),
		} {
			checkActText(t, a, text)
			checkNoAct(t, text, impl.ErrForm)
		}
	}
}

// notNumbers are words that are no number by chapter 1's rule.
func notNumbers() []string {
	list := []string{
		"-0", "+0", "+1", "+5", "00", "01", "007", "-01", "-00", "--1", "-", "+", "1-", "-1-", "1.0", "1e3", "0x1", "0b1", "0o7", "1_0", "x", "1x", "x1",
		"\u0661", "\uff11", "1\x00", "\x001", "1\xff", "O", "l", "1,", ",", "1\t", "'1'", "½", "٣", "−5", "inf", "nan", "true",
		"1000000000000000000", "-1000000000000000000", "9223372036854775807", "-9223372036854775808", "9223372036854775808", "18446744073709551616", "18446744073709551621",
		"0000000000000000001", "000000000000000000", strings.Repeat("9", 19), "-" + strings.Repeat("9", 19), strings.Repeat("1", 40), strings.Repeat("0", 18) + "1", strings.Repeat("9", 1000),
	}
	return append(list, strings.Repeat("-", 18), "-"+strings.Repeat("0", 18))
}

func TestPromise16WordsThatAreNoNumbers(t *testing.T) {
	for _, word := range notNumbers() {
		for _, text := range []string{
			"ticks " + word, "lossy " + word + " 01", "cost " + word + " 2 9", "cost 1 " + word + " 9", "cost 1 2 " + word,
			"restart " + word + " 100", "restart 2 " + word, "cost " + word + " " + word + " " + word, "  ticks   " + word + " ",
		} {
			checkNoAct(t, text, impl.ErrForm)
		}
	}
}

func TestPromise16WordsThatAreNoSigns(t *testing.T) {
	for _, word := range []string{
		"2", "012", "210", "0 1", "01 1", "-1", "+1", "0-1", "01x", "x", "0,1", "0\t1", "01\n", "\x00", "\x01", "0\x011", "\xff", "٠١", "０１", "/0", "0:", "0110 0", "lossy",
		strings.Repeat("0", 59) + "2", strings.Repeat("0", 60) + "2", "2" + strings.Repeat("0", 60), strings.Repeat("1", 4096) + "x", strings.Repeat("0", 30000) + "\t" + strings.Repeat("0", 30000), strings.Repeat("1", 65000) + "2",
	} {
		checkNoAct(t, "lossy 3 "+word, impl.ErrForm)
		checkNoAct(t, "lossy 3 "+word+"  ", impl.ErrForm)
	}
	for c := range 256 {
		if c == '0' || c == '1' || c == ' ' {
			continue
		}
		sign := string([]byte{byte(c)})
		for _, word := range []string{sign, "0" + sign, sign + "1", "0" + sign + "1"} {
			checkNoAct(t, "lossy 3 "+word, impl.ErrForm)
		}
	}
}

func TestPromise16TextsThatAreNone(t *testing.T) {
	for _, text := range []string{
		"", " ", "     ", "ticks", "ticks ", "ticks 1 2", "ticks 1 0", "ticks 5 01", "lossy", "lossy 3", "lossy 01", "lossy 3 01 1", "lossy 3 01 01", "lossy 01 3", "lossy x 01",
		"cost", "cost 1", "cost 1 2", "cost 1 2 3 4", "cost 1 2 9 01", "restart", "restart 1", "restart 1 2 3", "restart 1 100 01",
		"inject", "inject 1 2", "inject 1 2 zz", "inject 1 2 0", "go 1", "tick 1", "tickss 1", "Ticks 1", "TICKS 1", "ticks1", "ticks1 1", "1", "5 ticks", "1 2 9", "ticks ticks 5",
		"ticks 5 ticks 5", "#ticks 5", "# ticks 5", "show 1", "walk 1 2", "converged", "relays 1", "lossy3 01", "lossy 3 0110 #", "ticks 5.", "ticks,5", "ticks=5", "ticks -",
		"restart 1 -", "cost 1 2 -", "\x00", "ticks 5\x00", "\x00ticks 5", "ok", "restarts 1 2", "costs 1 2 3", "los 3 01",
	} {
		checkNoAct(t, text, impl.ErrForm)
	}
	// Each word of each text is needed, and none more.
	for _, right := range []string{"ticks 5", "lossy 3 0110", "cost 1 2 9", "restart 2 100"} {
		words := strings.Split(right, " ")
		for i := range words {
			checkNoAct(t, strings.Join(slices.Delete(slices.Clone(words), i, i+1), " "), impl.ErrForm)
		}
		for i := range len(words) + 1 {
			for _, more := range []string{"1", "0", "01", "x", "-1", words[0]} {
				text := strings.Join(slices.Insert(slices.Clone(words), i, more), " ")
				checkNoAct(t, text, impl.ErrForm)
			}
		}
	}
}

// Bytes of a text at which it is right, cut, or changed: one byte more or less makes another text.
func TestPromise16TextsOfOtherBytes(t *testing.T) {
	for _, right := range []string{"ticks 5", "lossy 3 0110", "cost 1 2 9", "restart 2 100"} {
		for i := range len(right) {
			for c := range 256 {
				b := []byte(right)
				b[i] = byte(c)
				checkAsRead(t, string(b))
				checkAsRead(t, right[:i]+string([]byte{byte(c)})+right[i:])
			}
			checkAsRead(t, right[:i])
			checkAsRead(t, right[i:])
		}
	}
}

func TestPromise16BlanksBetweenAheadAndBehind(t *testing.T) {
	for _, c := range []struct {
		words []string
		want  impl.Act
	}{
		{[]string{"ticks", "5"}, ticksAct(5)}, {[]string{"lossy", "3", "0110"}, lossyAct(3, 0, 1, 1, 0)},
		{[]string{"cost", "1", "2", "9"}, costAct(1, 2, 9)}, {[]string{"restart", "2", "100"}, restartAct(2, 100)},
	} {
		for _, between := range []int{1, 2, 3, 100} {
			for _, ahead := range []int{0, 1, 2, 100} {
				for _, behind := range []int{0, 1, 2, 100} {
					checkReadAct(t, strings.Repeat(" ", ahead)+strings.Join(c.words, strings.Repeat(" ", between))+strings.Repeat(" ", behind), c.want)
				}
			}
		}
		for _, other := range []string{"\t", "\n", "\r", "\v", "\f", "\x00", "\u0085", "\u00a0", "\u2003", "\u3000", "\xa0", "\x85", ",", "_", "\t ", " \t", "\n ", " \r\n", " \x00 "} {
			checkNoAct(t, strings.Join(c.words, other), impl.ErrForm)
			checkNoAct(t, c.words[0]+" "+strings.Join(c.words[1:], " ")+other, impl.ErrForm)
			checkNoAct(t, other+strings.Join(c.words, " "), impl.ErrForm)
		}
	}
}

func TestPromise16TextsOfTheGreatestLength(t *testing.T) {
	for text, a := range map[string]impl.Act{"ticks 5": ticksAct(5), "lossy 3 0110": lossyAct(3, 0, 1, 1, 0), "cost 1 2 9": costAct(1, 2, 9), "restart 2 100": restartAct(2, 100)} {
		first, rest, _ := strings.Cut(text, " ")
		for _, size := range []int{impl.MaxText - 1, impl.MaxText, impl.MaxText + 1, 2 * impl.MaxText} {
			blanks := strings.Repeat(" ", size-len(text))
			for _, padded := range []string{blanks + text, text + blanks, first + " " + blanks + rest} {
				if size <= impl.MaxText {
					checkReadAct(t, padded, a)
				} else {
					checkNoAct(t, padded, impl.ErrLong)
				}
			}
		}
	}
	for _, piece := range []string{" ", "x", "1 ", "ticks 5 ", "0", "\x00", "\xff"} {
		text := strings.Repeat(piece, impl.MaxText+1)
		checkNoAct(t, text[:impl.MaxText], impl.ErrForm)
		checkNoAct(t, text[:impl.MaxText+1], impl.ErrLong)
		checkNoAct(t, "ticks "+text[:impl.MaxText-6], impl.ErrForm)
		checkNoAct(t, "lossy 3 "+text[:impl.MaxText-9]+"x", impl.ErrForm)
		checkNoAct(t, "lossy 3 "+text[:impl.MaxText-7], impl.ErrLong)
	}
}

// MaxActs bounds the signs that are told; those that are read are bounded by the text's length alone.
func TestPromise16ManySignsAreReadAndNotTold(t *testing.T) {
	for _, size := range []int{maxActs - 1, maxActs, maxActs + 1, maxActs + 2, 200, impl.MaxList, impl.MaxList + 1, impl.MaxText - 9, impl.MaxText - 8} {
		for _, lose := range [][]int{make([]int, size), slices.Repeat([]int{1}, size), signsOf(size)} {
			a, text := lossyAct(3, lose...), "lossy 3 "+signsWord(lose)
			checkReadAct(t, text, a)
			if size <= maxActs {
				checkActText(t, a, text)
			} else {
				checkNoAct(t, text+"2", map[bool]int{true: impl.ErrLong, false: impl.ErrForm}[len(text) == impl.MaxText])
				checkNoText(t, a, impl.ErrBad)
			}
		}
		for _, i := range []int{0, size / 2, size - 1} {
			lose := make([]int, size)
			lose[i] = 1
			checkReadAct(t, "lossy 3 "+signsWord(lose), lossyAct(3, lose...))
			wrong := []byte("lossy 3 " + signsWord(lose))
			wrong[len("lossy 3 ")+i] = '2'
			checkNoAct(t, string(wrong), impl.ErrForm)
		}
	}
	checkNoAct(t, "lossy 3 "+strings.Repeat("0", impl.MaxText-7), impl.ErrLong)
}

// The words of chapters 1 and 16, as patterns: a reckoning that shares nothing with the program's.
var (
	aNumber     = `(0|-?[1-9][0-9]{0,17})`
	actPatterns = []*regexp.Regexp{
		impl.AcTicks:   regexp.MustCompile(`\A *ticks +` + aNumber + ` *\z`),
		impl.AcLossy:   regexp.MustCompile(`\A *lossy +` + aNumber + ` +([01]+) *\z`),
		impl.AcCost:    regexp.MustCompile(`\A *cost +` + aNumber + ` +` + aNumber + ` +` + aNumber + ` *\z`),
		impl.AcRestart: regexp.MustCompile(`\A *restart +` + aNumber + ` +` + aNumber + ` *\z`),
	}
)

func numberOf(word string) int {
	n, _ := strconv.Atoi(word)
	return n
}

func wantReadAct(text string) (impl.Act, int) {
	for kind := impl.AcTicks; kind <= impl.AcRestart; kind++ {
		found := actPatterns[kind].FindStringSubmatch(text)
		switch {
		case found == nil:
			continue
		case kind == impl.AcTicks:
			return ticksAct(numberOf(found[1])), impl.OK
		case kind == impl.AcLossy:
			a := lossyAct(numberOf(found[1]))
			for _, c := range found[2] {
				a.Lose = append(a.Lose, int(c-'0'))
			}
			return a, impl.OK
		case kind == impl.AcCost:
			return costAct(numberOf(found[1]), numberOf(found[2]), numberOf(found[3])), impl.OK
		default:
			return restartAct(numberOf(found[1]), numberOf(found[2])), impl.OK
		}
	}
	return impl.Act{}, impl.ErrForm
}

// checkAsRead holds a text against the patterns, and what is read against its own text; it says whether it is read.
func checkAsRead(t *testing.T, text string) bool {
	t.Helper()
	want, code := wantReadAct(text)
	if code != impl.OK {
		checkNoAct(t, text, code)
		return false
	}
	checkReadAct(t, text, want)
	if len(want.Lose) > maxActs {
		checkNoText(t, want, impl.ErrBad)
	} else {
		checkActText(t, want, strings.Join(strings.Fields(text), " "))
	}
	return true
}

func TestPromise16DrawnTexts(t *testing.T) {
	d := &draws{161}
	pieces := append([]string{"ticks", "lossy", "cost", "restart", "inject", "0", "1", "9", "-7", "01", "0110", "10", "256", "-1", "111", "\t", "x", "00", "", "-", "10000"}, notNumbers()[:8]...)
	read := 0
	for range 60000 {
		text := strings.Repeat(" ", d.next(2)) + pieces[d.next(4)]
		for range 1 + d.next(4) {
			text += strings.Repeat(" ", 1+d.next(9)/8) + pieces[5+d.next(12)]
			if d.next(12) == 0 {
				text += pieces[d.next(len(pieces))]
			}
		}
		if checkAsRead(t, text+strings.Repeat(" ", d.next(2))) {
			read++
		}
		checkAsRead(t, d.text(d.next(30)))
	}
	if read < 3000 || read > 50000 {
		t.Error("too few of one kind to tell anything:", read)
	}
}

func TestPromise16DrawnActsAreToldAndRead(t *testing.T) {
	d := &draws{162}
	wide := func() int {
		n := (d.next(1<<30)<<30 | d.next(1<<30)) % firstTooFar >> d.next(59)
		return n * (1 - 2*d.next(2))
	}
	for range 20000 {
		var a impl.Act
		switch d.next(4) {
		case 0:
			a = ticksAct(wide())
		case 1:
			a = lossyAct(wide(), 1)
			for range d.next(maxActs) {
				a.Lose = append(a.Lose, d.next(2))
			}
		case 2:
			a = costAct(wide(), wide(), wide())
		default:
			a = restartAct(wide(), wide())
		}
		text, code := impl.ActText(a)
		if code != impl.OK {
			t.Fatalf("ActText(%s): code %d", briefAct(a), code)
		}
		checkToldAndRead(t, a, text)
		checkAsRead(t, text)
	}
}

// A run of what was read back is the run itself.
func TestPromise16RunsOfActsThatWereReadBack(t *testing.T) {
	for _, c := range actNets() {
		var acts []impl.Act
		for _, text := range []string{"ticks 7", " lossy  4 0110", "cost 1 2 0 ", "ticks 201", "lossy 3 1", "restart 2 900", "cost 2 2 1", "ticks 12", "restart 1 65536", "lossy -1 0", "cost 1 2 200", "ticks 9"} {
			a, code := impl.ReadAct(text)
			if code != impl.OK {
				t.Fatalf("ReadAct(%q): code %d", text, code)
			}
			acts = append(acts, a)
		}
		got := checkRun(t, c.name, c.n, acts)
		made := []impl.Act{
			ticksAct(7), lossyAct(4, 0, 1, 1, 0), costAct(1, 2, 0), ticksAct(201), lossyAct(3, 1), restartAct(2, 900), costAct(2, 2, 1), ticksAct(12), restartAct(1, 65536), lossyAct(-1, 0),
			costAct(1, 2, 200), ticksAct(9),
		}
		if want := checkRun(t, c.name, c.n, made); !sameNet(got, want) {
			t.Errorf("acts that were read back, on %s: %s, not %s", c.name, briefNet(got), briefNet(want))
		}
	}
}
