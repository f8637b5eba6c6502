// Package wide is layer 1: it reckons with areas, see shared/doc/01-wide.md.
package wide

import (
	"cmp"
	"math/bits"
)

// U is the number u[0] + u[1] times 2^64 + u[2] times 2^128.
type U [3]uint64

// mostDigits is how many digits 2^192 - 1 has: no number has more.
const mostDigits = 58

// Of is n as a U.
func Of(n uint64) U { return U{n} }

// Span is how far b lies above a; 0 if it lies below.
func Span(a, b int) uint64 {
	if b < a {
		return 0
	}
	// As ints the difference might not fit; modulo 2^64 it is exact, for it is neither below 0 nor 2^64 or more.
	return uint64(b) - uint64(a)
}

// Times is the product of a and b.
func Times(a, b uint64) U {
	high, low := bits.Mul64(a, b)
	return U{low, high}
}

// Add is a and b together; false if that is 2^192 or more.
func Add(a, b U) (U, bool) {
	var carry uint64
	for i := range a {
		a[i], carry = bits.Add64(a[i], b[i], carry)
	}
	if carry != 0 {
		return U{}, false
	}
	return a, true
}

// Sub is a less b; false if that is below 0.
func Sub(a, b U) (U, bool) {
	var borrow uint64
	for i := range a {
		a[i], borrow = bits.Sub64(a[i], b[i], borrow)
	}
	if borrow != 0 {
		return U{}, false
	}
	return a, true
}

// Cmp is -1, 0 or 1 as a is below b, as great, or above it.
func Cmp(a, b U) int {
	if a == b {
		return 0
	}
	// The highest words that differ decide, whatever stands below them.
	i := len(a) - 1
	for i > 0 && a[i] == b[i] {
		i--
	}
	return cmp.Compare(a[i], b[i])
}

// Text is a's digits to base 10, without noughts ahead.
func (a U) Text() string {
	if a == (U{}) {
		return "0"
	}
	var digits [mostDigits]byte
	first := len(digits)
	for a != (U{}) {
		var d uint64
		a, d = cutDigit(a)
		first--
		digits[first] = '0' + byte(d)
	}
	return string(digits[first:])
}

// Parse is the number of which s is the Text; false if there is none.
func Parse(s string) (U, bool) {
	if s == "0" {
		return U{}, true
	}
	if s == "" || s[0] == '0' {
		return U{}, false
	}
	var a U
	for _, r := range s {
		if r < '0' || r > '9' {
			return U{}, false
		}
		more, ok := putDigit(a, uint64(r-'0'))
		if !ok {
			return U{}, false
		}
		a = more
	}
	return a, true
}

// Bits is how many bits a has, without noughts ahead.
func (a U) Bits() int {
	for i := len(a) - 1; i >= 0; i-- {
		if a[i] != 0 {
			return 64*i + bits.Len64(a[i])
		}
	}
	return 0
}

// cutDigit tells a without its last digit, and that digit.
func cutDigit(a U) (U, uint64) {
	var rest uint64
	for i := len(a) - 1; i >= 0; i-- {
		// rest is below 10, so Div64 never has a quotient that does not fit.
		a[i], rest = bits.Div64(rest, a[i], 10)
	}
	return a, rest
}

// putDigit tells a with the digit d behind its last one; false if that is 2^192 or more.
func putDigit(a U, d uint64) (U, bool) {
	for i := range a {
		high, low := bits.Mul64(a[i], 10)
		sum, carry := bits.Add64(low, d, 0)
		// high is at most 9, so it has room for the carry.
		a[i], d = sum, high+carry
	}
	return a, d == 0
}
