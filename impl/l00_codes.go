package impl

const (
	MaxText = 65536
	MaxList = 4096
	MaxName = 40

	OK       = 0
	ErrBad   = 1
	ErrLong  = 2
	ErrForm  = 3
	ErrRange = 4
	ErrNone  = 5
	ErrMany  = 6
	ErrFull  = 7
	ErrTwice = 8
	ErrSelf  = 9
	ErrOld   = 10
	ErrStale = 11
	ErrName  = 12
	ErrLoop  = 13
	ErrPlace = 14
	ErrBusy  = 15
	ErrLink  = 16
	ErrOrder = 17
	ErrType  = 18
	ErrEnd   = 19
)

// A word's place is its code, so that one table serves both ways.
var codeWords = [...]string{
	"ok", "bad", "long", "form", "range",
	"none", "many", "full", "twice", "self",
	"old", "stale", "name", "loop", "place",
	"busy", "link", "order", "type", "end",
}

func NameOK(t string) bool {
	if !within(len(t), 1, MaxName) || isDigit(t[0]) {
		return false
	}
	for i := range len(t) {
		if !isLetter(t[i]) && !isDigit(t[i]) {
			return false
		}
	}
	return true
}

func CodeWord(code int) string {
	if !within(code, 0, len(codeWords)-1) {
		return ""
	}
	return codeWords[code]
}

func CodeOf(word string) int {
	for code := range len(codeWords) {
		if codeWords[code] == word {
			return code
		}
	}
	return -1
}

func isLetter(c byte) bool {
	return 'a' <= c && c <= 'z' || 'A' <= c && c <= 'Z' || c == '_'
}

func isDigit(c byte) bool {
	return '0' <= c && c <= '9'
}

func within(n, low, high int) bool {
	return low <= n && n <= high
}
