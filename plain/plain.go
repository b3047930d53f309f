// Package plain contains what several layers need alike: the names, texts and
// decimal numbers of which texts consist (shared/DOC.md, 'Names and strings'), and
// sums that never go round.
package plain

import (
	"math"

	"paternoster/api"
)

// Name reports whether s is a name.
func Name(s string) bool {
	if len(s) == 0 || len(s) > api.MaxName {
		return false
	}
	for i := range len(s) {
		if !NameByte(s[i]) {
			return false
		}
	}
	return true
}

// NameByte reports whether a byte may stand in a name.
func NameByte(c byte) bool { return c >= 'a' && c <= 'z' || c >= '0' && c <= '9' }

// Text reports whether s is a text.
func Text(s string) bool {
	if len(s) > api.MaxString {
		return false
	}
	for i := range len(s) {
		if !TextByte(s[i]) {
			return false
		}
	}
	return true
}

// TextByte reports whether a byte may stand in a text.
func TextByte(c byte) bool { return c >= 32 && c <= 126 }

// Uint returns the number, at most most, of which s is the only decimal form.
func Uint(s string, most uint64) (n uint64, ok bool) {
	if s == "" || len(s) > 1 && s[0] == '0' {
		return 0, false
	}
digits:
	for i := range len(s) {
		digit := uint64(s[i]) - '0'
		switch {
		case s[i] < '0' || s[i] > '9':
			break digits
		case digit > most || n > (most-digit)/10:
			break digits
		}
		n = n*10 + digit
		if i == len(s)-1 {
			return n, true
		}
	}
	return 0, false
}

// Int returns the number of which s is the only decimal form.
func Int(s string) (n int64, ok bool) {
	if len(s) > 0 && s[0] == '-' {
		u, ok := Uint(s[1:], 1<<63)
		if !ok || u == 0 {
			return 0, false
		}
		return -int64(u), true // 1<<63 stays the least number
	}
	u, ok := Uint(s, math.MaxInt64)
	return int64(u), ok
}

// Sum returns the sum of two numbers, or the greatest or least number if it is
// beyond these.
func Sum(a, b int64) int64 {
	if b >= 0 {
		return min(a, math.MaxInt64-b) + b
	}
	return max(a, math.MinInt64-b) + b
}
