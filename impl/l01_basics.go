package impl

import (
	"strconv"
	"strings"
)

// Codes.
const (
	OK = iota
	ErrInvalid
	ErrRange
	ErrNotFound
	ErrExists
	ErrFull
	ErrState
	ErrSyntax
	ErrLoop
	ErrFormat
	ErrChecksum
	ErrTruncated
)

// MaxName is the greatest length of a name.
const MaxName = 12

// Limits of ReadDecimal and of words.
const (
	maxDecimal   = 999999999999999999
	maxWordBytes = 4
)

// codeNames are the names of the codes, by their values.
var codeNames = [...]string{
	OK:           "ok",
	ErrInvalid:   "invalid",
	ErrRange:     "range",
	ErrNotFound:  "not-found",
	ErrExists:    "exists",
	ErrFull:      "full",
	ErrState:     "state",
	ErrSyntax:    "syntax",
	ErrLoop:      "loop",
	ErrFormat:    "format",
	ErrChecksum:  "checksum",
	ErrTruncated: "truncated",
}

// CodeName returns the name of a code.
func CodeName(code int64) string {
	if code < 0 || code >= int64(len(codeNames)) {
		return ""
	}
	return codeNames[code]
}

// IsName reports whether s is a name.
func IsName(s string) bool {
	if len(s) < 1 || len(s) > MaxName || !isSmallLetter(s[0]) {
		return false
	}
	for i := 1; i < len(s); i++ {
		if !isSmallLetter(s[i]) && !isDigit(s[i]) && s[i] != '.' {
			return false
		}
	}
	return true
}

func isSmallLetter(b byte) bool { return b >= 'a' && b <= 'z' }

func isDigit(b byte) bool { return b >= '0' && b <= '9' }

// Decimal returns the decimal form of a number.
func Decimal(n int64) string { return strconv.FormatInt(n, 10) }

// ReadDecimal returns the number with a decimal form.
func ReadDecimal(s string) (int64, bool) {
	n, err := strconv.ParseInt(s, 10, 64)
	if err != nil || n < -maxDecimal || n > maxDecimal {
		return 0, false
	}
	// ParseInt also takes a plus sign, leading zeros and -0, which Decimal never writes.
	if Decimal(n) != s {
		return 0, false
	}
	return n, true
}

// SplitWords returns the parts of a text without blanks.
func SplitWords(s string) []string { return strings.FieldsFunc(s, isBlank) }

func isBlank(r rune) bool { return r == ' ' }

// PutWord returns the bytes of a number, the highest one first.
func PutWord(n, bytes int64) string {
	if bytes < 1 || bytes > maxWordBytes {
		return ""
	}
	limit := int64(1) << (8 * bytes)
	if n < -limit/2 || n >= limit {
		return ""
	}
	word := make([]byte, bytes)
	for i := range word {
		// The shift keeps the sign, so that a negative number gets the bytes of n + limit.
		word[i] = byte(n >> (8 * (bytes - 1 - int64(i))))
	}
	return string(word)
}

// GetWord returns the number of some bytes, the highest one first.
func GetWord(s string, at, bytes int64) (int64, bool) {
	// at + bytes might overflow, len(s) - bytes does not.
	if bytes < 1 || bytes > maxWordBytes || at < 0 || at > int64(len(s))-bytes {
		return 0, false
	}
	n := int64(0)
	for i := range bytes {
		n = n<<8 | int64(s[at+i])
	}
	return n, true
}

// Sum32 returns the sum of the words of a string.
func Sum32(s string) int64 {
	sum := uint32(0)
	for i := range len(s) {
		// Each byte is added at its place in its word; missing bytes at the end count as zeros this way.
		sum += uint32(s[i]) << (24 - 8*(i%4))
	}
	return int64(sum)
}
