package plain_test

import (
	"math"
	"strconv"
	"strings"
	"testing"

	"paternoster/plain"
)

func TestNamesAndTexts(t *testing.T) {
	for s, want := range map[string][2]bool{
		"": {false, true}, "a0z9": {true, true}, "A": {false, true}, " ~": {false, true}, "\x1f": {false, false}, "\x7f": {false, false}, "é": {false, false},
		strings.Repeat("a", 16): {true, true}, strings.Repeat("a", 17): {false, true},
		strings.Repeat("a", 64): {false, true}, strings.Repeat("a", 65): {false, false},
	} {
		if plain.Name(s) != want[0] || plain.Text(s) != want[1] {
			t.Errorf("%q: %v %v", s, plain.Name(s), plain.Text(s))
		}
	}
}

func TestNumbers(t *testing.T) {
	for _, s := range []string{"", "0", "00", "01", "-0", "-", "+1", "1 ", " 1", "a", "1a", "-1", "-01", "12", "255", "256",
		"9223372036854775807", "9223372036854775808", "-9223372036854775808", "-9223372036854775809",
		"18446744073709551615", "18446744073709551616", "99999999999999999999", "184467440737095516150"} {
		for _, bits := range []int{8, 63, 64} {
			most := uint64(math.MaxUint64) >> (64 - bits)
			want, err := strconv.ParseUint(s, 10, 64)
			ok := err == nil && want <= most && strconv.FormatUint(want, 10) == s
			if got, found := plain.Uint(s, most); found != ok || ok && got != want || !ok && got != 0 {
				t.Errorf("Uint(%q, %d): %d %v", s, most, got, found)
			}
		}
		want, err := strconv.ParseInt(s, 10, 64)
		ok := err == nil && strconv.FormatInt(want, 10) == s
		if got, found := plain.Int(s); found != ok || ok && got != want || !ok && got != 0 {
			t.Errorf("Int(%q): %d %v", s, got, found)
		}
	}
	for most := range uint64(130) {
		for n := range uint64(140) {
			if got, ok := plain.Uint(strconv.FormatUint(n, 10), most); ok != (n <= most) || ok && got != n {
				t.Errorf("Uint(%d, %d): %d %v", n, most, got, ok)
			}
		}
	}
}

func TestSum(t *testing.T) {
	const least, most = math.MinInt64, math.MaxInt64
	for _, x := range [][3]int64{{3, -5, -2}, {most, 1, most}, {1, most, most}, {least, -1, least}, {-1, least, least}, {least, most, -1}, {most, least, -1}, {most - 1, 1, most}, {least + 1, -1, least}} {
		if got := plain.Sum(x[0], x[1]); got != x[2] {
			t.Errorf("Sum(%d, %d): %d", x[0], x[1], got)
		}
	}
}
