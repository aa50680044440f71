package impl

import (
	"strconv"
	"strings"
)

// Codes: iota gives them the values of their order.
const (
	OK = iota
	ErrInvalid
	ErrRange
	ErrNotFound
	ErrExists
	ErrFull
	ErrState
	ErrSyntax
	ErrFormat
	ErrIllegal
	ErrEndless
)

// MaxName is the greatest number of bytes of a name.
const MaxName = 12

// decimalLimit is the least number that has more digits than ReadDecimal allows.
const decimalLimit = 1_000_000_000_000_000_000

// codeNames has the names in the order of the codes above.
var codeNames = [ErrEndless + 1]string{
	"ok",
	"invalid",
	"range",
	"not-found",
	"exists",
	"full",
	"state",
	"syntax",
	"format",
	"illegal",
	"endless",
}

// CodeName returns the name of a code.
func CodeName(code int64) string {
	if code < OK || code > ErrEndless {
		return ""
	}
	return codeNames[code]
}

// IsName reports whether s is a name.
func IsName(s string) bool {
	if len(s) < 1 || len(s) > MaxName {
		return false
	}
	for i, c := range s {
		if !isNameRune(c) || i == 0 && !isSmallLetter(c) {
			return false
		}
	}
	return true
}

func isNameRune(c rune) bool {
	return isSmallLetter(c) || c >= '0' && c <= '9' || c == '-'
}

func isSmallLetter(c rune) bool {
	return c >= 'a' && c <= 'z'
}

// Decimal returns the decimal form of a number.
func Decimal(n int64) string {
	return strconv.FormatInt(n, 10)
}

// ReadDecimal returns the number with a decimal form.
func ReadDecimal(s string) (int64, bool) {
	n, err := strconv.ParseInt(s, 10, 64)
	if err != nil || n <= -decimalLimit || n >= decimalLimit {
		return 0, false
	}
	// ParseInt also reads other forms of a number, such as +1, 01 and -0.
	if Decimal(n) != s {
		return 0, false
	}
	return n, true
}

// SplitWords returns the parts of a text without blanks.
func SplitWords(s string) []string {
	// strings.Fields would split at tabs and ends of lines too.
	return strings.FieldsFunc(s, isBlank)
}

func isBlank(c rune) bool {
	return c == ' '
}
