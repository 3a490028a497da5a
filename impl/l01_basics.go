package impl

import (
	"strconv"
	"strings"
)

// Codes.
const (
	OK = iota
	ErrInvalid
	ErrRange
	ErrNotFound
	ErrExists
	ErrFull
	ErrState
	ErrSyntax
	ErrFormat
	ErrLoop
	ErrBroken
)

// MaxName is the greatest length of a name.
const MaxName = 12

// greatestRead is the greatest number of 18 digits.
const greatestRead = 999999999999999999

var codeNames = [...]string{
	"ok", "invalid", "range", "not-found", "exists", "full",
	"state", "syntax", "format", "loop", "broken",
}

// CodeName returns the name of a code.
func CodeName(code int64) string {
	if code < 0 || code >= int64(len(codeNames)) {
		return ""
	}
	return codeNames[code]
}

// IsName reports whether s is a name.
func IsName(s string) bool {
	if len(s) < 1 || len(s) > MaxName {
		return false
	}
	for i, r := range s {
		if !isLetter(r) && (i == 0 || !isDigitOrHyphen(r)) {
			return false
		}
	}
	return true
}

func isLetter(r rune) bool { return r >= 'a' && r <= 'z' }

func isDigitOrHyphen(r rune) bool { return r >= '0' && r <= '9' || r == '-' }

// Decimal returns the decimal form of a number.
func Decimal(n int64) string { return strconv.FormatInt(n, 10) }

// ReadDecimal returns the number with a decimal form.
func ReadDecimal(s string) (int64, bool) {
	n, err := strconv.ParseInt(s, 10, 64)
	if err != nil || n < -greatestRead || n > greatestRead {
		return 0, false
	}
	// ParseInt also reads a plus sign, leading zeros and -0.
	if Decimal(n) != s {
		return 0, false
	}
	return n, true
}

// SplitWords returns the parts of a text without blanks.
func SplitWords(s string) []string {
	// Not strings.Fields: tabs, newlines and other white space are parts of words.
	return strings.FieldsFunc(s, isBlank)
}

func isBlank(r rune) bool { return r == ' ' }
