package wkt

import (
	"strconv"
	"strings"
)

// An ordinate counts units of a ten-millionth, which has so many digits behind the point.
const (
	places = 7
	unit   = 10_000_000
)

// mostOfNumber is how many bytes a number may have.
const mostOfNumber = 40

// Ordinate is n as a text: no more digits behind the point than it needs, and no point where it needs none.
func Ordinate(n int) string {
	sign, whole, rest := "", n/unit, n%unit
	if n < 0 {
		sign, whole, rest = "-", -whole, -rest
	}
	text := sign + strconv.Itoa(whole)
	if rest == 0 {
		return text
	}
	// A one ahead keeps the noughts at the front.
	digits := strconv.Itoa(unit + rest)[1:]
	return text + "." + strings.TrimRight(digits, "0")
}

// Number is the ordinate that s says; not ok: it says none.
func Number(s string) (int, bool) {
	if len(s) > mostOfNumber {
		return 0, false
	}
	digits, below := unsigned(s)
	whole, rest, pointed := strings.Cut(digits, ".")
	if !allDigits(whole) || pointed && !allDigits(rest) || len(rest) > places {
		return 0, false
	}
	// Both ends are as far from nought: what is below it may be as great as what is above.
	n, err := strconv.ParseInt(whole+rest+strings.Repeat("0", places-len(rest)), 10, 64)
	switch {
	case err != nil:
		return 0, false
	case below:
		return int(-n), true
	}
	return int(n), true
}

// unsigned is s without the sign ahead of it, if there is one, and whether that is a minus.
func unsigned(s string) (string, bool) {
	if rest, ok := strings.CutPrefix(s, "-"); ok {
		return rest, true
	}
	return strings.TrimPrefix(s, "+"), false
}

// allDigits says whether s has digits, and nothing else.
func allDigits(s string) bool {
	for _, r := range s {
		if !digit(r) {
			return false
		}
	}
	return s != ""
}
