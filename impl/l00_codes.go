package impl

import "strconv"

const (
	MaxText = 65536
	MaxList = 4096
	MaxName = 40

	OK        = 0
	ErrBad    = 1
	ErrLong   = 2
	ErrForm   = 3
	ErrRange  = 4
	ErrNone   = 5
	ErrMany   = 6
	ErrFull   = 7
	ErrSize   = 8
	ErrZero   = 9
	ErrDomain = 10
	ErrBelow  = 11
	ErrDeep   = 12
	ErrName   = 13
	ErrSolver = 14
	ErrBudget = 15
	ErrLimit  = 16
	ErrSearch = 17
	ErrBox    = 18
	ErrAudit  = 19
)

var codeWords = [...]string{
	OK:        "ok",
	ErrBad:    "bad",
	ErrLong:   "long",
	ErrForm:   "form",
	ErrRange:  "range",
	ErrNone:   "none",
	ErrMany:   "many",
	ErrFull:   "full",
	ErrSize:   "size",
	ErrZero:   "zero",
	ErrDomain: "domain",
	ErrBelow:  "below",
	ErrDeep:   "deep",
	ErrName:   "name",
	ErrSolver: "solver",
	ErrBudget: "budget",
	ErrLimit:  "limit",
	ErrSearch: "search",
	ErrBox:    "box",
	ErrAudit:  "audit",
}

func NameOK(t string) bool {
	if len(t) < 1 || len(t) > MaxName || isDigit(t[0]) {
		return false
	}
	for i := range len(t) {
		if !isLetter(t[i]) && !isDigit(t[i]) {
			return false
		}
	}
	return true
}

func CodeWord(code int) string {
	if code < 0 || code >= len(codeWords) {
		return ""
	}
	return codeWords[code]
}

func CodeOf(word string) int {
	for code, w := range codeWords {
		if w == word {
			return code
		}
	}
	return -1
}

func isLetter(b byte) bool {
	return 'a' <= b && b <= 'z' || 'A' <= b && b <= 'Z' || b == '_'
}

func isDigit[T byte | rune](c T) bool {
	return '0' <= c && c <= '9'
}

// readNumber takes the texts of numbers that have at most 18 digits; of each number there is one text alone.
func readNumber(t string) (int, bool) {
	const most = 999999999999999999
	n, err := strconv.Atoi(t)
	if err != nil || n < -most || n > most || strconv.Itoa(n) != t {
		return 0, false
	}
	return n, true
}

func anyLong[T any](lists ...[]T) bool {
	for _, list := range lists {
		if len(list) > MaxList {
			return true
		}
	}
	return false
}
