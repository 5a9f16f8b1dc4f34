package impl

import "strings"

const (
	MaxText = 65536
	MaxList = 4096
	MaxName = 40

	OK         = 0
	ErrBad     = 1
	ErrLong    = 2
	ErrForm    = 3
	ErrRange   = 4
	ErrNone    = 5
	ErrMany    = 6
	ErrFull    = 7
	ErrSum     = 8
	ErrTwice   = 9
	ErrProto   = 10
	ErrPart    = 11
	ErrState   = 12
	ErrUser    = 13
	ErrBusy    = 14
	ErrSpent   = 15
	ErrRefused = 16
	ErrOrder   = 17
	ErrMethod  = 18
	ErrMore    = 19
)

// maxDigits bounds a number's text, so that reading one never wraps.
const maxDigits = 18

const maxShortName = 8

// codeWords stands in the order of the codes: a code is its word's place.
var codeWords = [...]string{
	"ok", "bad", "long", "form", "range",
	"none", "many", "full", "sum", "twice",
	"proto", "part", "state", "user", "busy",
	"spent", "refused", "order", "method", "more",
}

// NameOK tells whether t is a name.
func NameOK(t string) bool {
	if len(t) < 1 || len(t) > MaxName || isDigit(t[0]) {
		return false
	}
	for i := range len(t) {
		if !isLetter(t[i]) && !isDigit(t[i]) {
			return false
		}
	}
	return true
}

// CodeWord is the word of a code, or the empty text.
func CodeWord(code int) string {
	if code < 0 || code >= len(codeWords) {
		return ""
	}
	return codeWords[code]
}

// CodeOf is the code of a word, or -1.
func CodeOf(word string) int {
	for code := range len(codeWords) {
		if codeWords[code] == word {
			return code
		}
	}
	return -1
}

func shortNameOK(t string) bool {
	return len(t) <= maxShortName && NameOK(t)
}

// isLetter counts the underscore as a letter, as all chapters do.
func isLetter(c byte) bool {
	return c >= 'a' && c <= 'z' || c >= 'A' && c <= 'Z' || c == '_'
}

func isDigit(c byte) bool {
	return c >= '0' && c <= '9'
}

// readNumber reads a number's text; false of any other text. strconv.Atoi
// would not do: it lets through a plus sign and noughts ahead.
func readNumber(t string) (int, bool) {
	digits := strings.TrimPrefix(t, "-")
	if len(digits) < 1 || len(digits) > maxDigits {
		return 0, false
	}
	// A nought may stand first only if it is the whole text: this bars "-0" too.
	if digits[0] == '0' && len(t) > 1 {
		return 0, false
	}
	n := 0
	for i := range len(digits) {
		if !isDigit(digits[i]) {
			return 0, false
		}
		n = n*10 + int(digits[i]-'0')
	}
	if len(t) > len(digits) {
		n = -n
	}
	return n, true
}
