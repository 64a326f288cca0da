package impl

import (
	"cmp"
	"math/bits"
	"strconv"
	"strings"
)

// Constants of chapter 1.
const (
	OK           = 0
	ErrInvalid   = 1
	ErrRange     = 2
	ErrNotFound  = 3
	ErrExists    = 4
	ErrFull      = 5
	ErrState     = 6
	ErrOrder     = 7
	ErrSyntax    = 8
	ErrFormat    = 9
	ErrChecksum  = 10
	ErrTruncated = 11
	MaxName      = 10
	MaxList      = 64
	MaxBudget    = 20000
	MaxValue     = 1000000000000
	CrcStart     = 65535
)

const (
	mostDigits = 18
	blendLimit = 1000000
	crcPattern = 4129
	crcMask    = 65535
)

var codeNames = [...]string{
	OK:           "ok",
	ErrInvalid:   "invalid",
	ErrRange:     "range",
	ErrNotFound:  "not-found",
	ErrExists:    "exists",
	ErrFull:      "full",
	ErrState:     "state",
	ErrOrder:     "order",
	ErrSyntax:    "syntax",
	ErrFormat:    "format",
	ErrChecksum:  "checksum",
	ErrTruncated: "truncated",
}

// CodeName returns the name of an error code.
func CodeName(code int64) string {
	if code < 0 || code >= int64(len(codeNames)) {
		return ""
	}
	return codeNames[code]
}

// IsName reports whether s is a name.
func IsName(s string) bool {
	if len(s) == 0 || len(s) > MaxName || !isSmallLetter(s[0]) {
		return false
	}
	for k := 1; k < len(s); k++ {
		if !isSmallLetter(s[k]) && !isDigit(s[k]) {
			return false
		}
	}
	return true
}

func isSmallLetter(c byte) bool { return 'a' <= c && c <= 'z' }

func isDigit(c byte) bool { return '0' <= c && c <= '9' }

// Decimal returns a number in decimal.
func Decimal(n int64) string { return strconv.FormatInt(n, 10) }

// ReadDecimal returns the number with a decimal form.
func ReadDecimal(s string) (int64, bool) {
	if len(strings.TrimPrefix(s, "-")) > mostDigits {
		return 0, false
	}
	n, err := strconv.ParseInt(s, 10, 64)
	// ParseInt also takes forms that Decimal never writes: +1, -0 and 01.
	if err != nil || Decimal(n) != s {
		return 0, false
	}
	return n, true
}

// SplitWords divides a line at blanks.
func SplitWords(s string) []string {
	var words []string
	// Only the blank divides; strings.Fields would divide at tabs and line ends too.
	for _, part := range strings.Split(s, " ") {
		if part != "" {
			words = append(words, part)
		}
	}
	return words
}

// ListText returns a list of numbers as text.
func ListText(list []int64) string {
	if len(list) > MaxList || !allWithin(MaxValue, list...) {
		return ""
	}
	if len(list) == 0 {
		return "-"
	}
	parts := make([]string, len(list))
	for k, n := range list {
		parts[k] = Decimal(n)
	}
	return strings.Join(parts, ",")
}

// ReadList returns the list with a text.
func ReadList(s string) ([]int64, bool) {
	if s == "-" {
		return []int64{}, true
	}
	// One part more than a list may have is enough to refuse a text of any length.
	parts := strings.SplitN(s, ",", MaxList+1)
	if len(parts) > MaxList {
		return nil, false
	}
	list := make([]int64, len(parts))
	for k, part := range parts {
		n, ok := ReadDecimal(part)
		if !ok || !allWithin(MaxValue, n) {
			return nil, false
		}
		list[k] = n
	}
	return list, true
}

// Crc16 returns the check value of bytes.
func Crc16(s string, start int64) int64 {
	if start < 0 || start > crcMask {
		return 0
	}
	crc := start
	for k := range len(s) {
		crc ^= int64(s[k]) * 256
		for range 8 {
			crc *= 2
			if crc > crcMask {
				crc = crc&crcMask ^ crcPattern
			}
		}
	}
	return crc
}

// RootOf returns the square root, rounded down.
func RootOf(n int64) int64 {
	if n < 0 {
		return 0
	}
	// Unsigned, because the square of a trial root may be beyond the greatest int64.
	square, root := uint64(n), uint64(0)
	for bit := bits.Len64(square) / 2; bit >= 0; bit-- {
		trial := root | 1<<bit
		if trial*trial <= square {
			root = trial
		}
	}
	return int64(root)
}

// DivRound returns the nearest quotient.
func DivRound(a, b int64) int64 {
	if b == 0 || !allWithin(MaxValue, a, b) {
		return 0
	}
	return nearestQuotient(a, b)
}

// nearestQuotient is DivRound without its limits, for formulas whose products go beyond MaxValue; b is not 0.
func nearestQuotient(a, b int64) int64 {
	quotient, rest := a/b, magnitude(a%b)
	// The rest is compared with what is missing to the next quotient, because its double may overflow.
	if rest < magnitude(b)-rest {
		return quotient
	}
	if (a < 0) != (b < 0) {
		return quotient - 1
	}
	return quotient + 1
}

// magnitude is unsigned, because the least int64 has no int64 as its absolute value.
func magnitude(n int64) uint64 {
	if n < 0 {
		return -uint64(n)
	}
	return uint64(n)
}

// Blend returns a number on a line through two points.
func Blend(x0, y0, x1, y1, x int64) int64 {
	if !allWithin(blendLimit, x0, y0, x1, y1) {
		return 0
	}
	if x1 <= x0 {
		return y0
	}
	// Held between the ends, any x keeps the product small, and the line is exactly y0 and y1 there.
	held := least(greatest(x, x0), x1)
	return y0 + nearestQuotient((y1-y0)*(held-x0), x1-x0)
}

// allWithin reports whether all numbers are from -limit to limit, where limit is not negative.
func allWithin(limit int64, list ...int64) bool {
	return least(0, list...) >= -limit && greatest(0, list...) <= limit
}

func least[T cmp.Ordered](first T, rest ...T) T {
	for _, other := range rest {
		if other < first {
			first = other
		}
	}
	return first
}

func greatest[T cmp.Ordered](first T, rest ...T) T {
	for _, other := range rest {
		if other > first {
			first = other
		}
	}
	return first
}
