// Package num implements checked arithmetic on integers and their decimal notation. It is layer 1: see shared/doc/01-num.md.
package num

import (
	"strings"

	"accounting/api"
)

// Add returns a + b and true, or 0 and false if the sum does not fit in an int.
func Add(a, b int) (n int, ok bool) {
	n = a + b
	// Only arguments of one sign can leave the range, and then the sum has the other sign.
	if (a < 0) == (b < 0) && (n < 0) != (a < 0) {
		return 0, false
	}
	return n, true
}

// Sub returns a - b and true, or 0 and false if the difference does not fit in an int.
func Sub(a, b int) (n int, ok bool) {
	n = a - b
	// Only arguments of different signs can leave the range, and then the difference has the sign of b.
	if (a < 0) != (b < 0) && (n < 0) != (a < 0) {
		return 0, false
	}
	return n, true
}

// Mul returns a · b and true, or 0 and false if the product does not fit in an int.
func Mul(a, b int) (n int, ok bool) {
	switch b {
	case 0:
		return 0, true
	case -1:
		// The check below would fail for the smallest int, because its quotient by -1 wraps around, too.
		return Neg(a)
	}
	n = a * b
	if n/b != a {
		return 0, false
	}
	return n, true
}

// Neg returns -a and true, or 0 and false if it does not fit in an int.
func Neg(a int) (n int, ok bool) {
	return Sub(0, a)
}

// Sum returns the exact sum of l and true, or 0 and false if it does not fit in an int.
func Sum(l ...int) (n int, ok bool) {
	// The exact sum is n + wraps · 2^64, so it fits exactly if the wraps cancel out.
	wraps := 0
	for _, a := range l {
		next := n + a
		switch {
		case a > 0 && next < n:
			wraps++
		case a < 0 && next > n:
			wraps--
		}
		n = next
	}
	if wraps != 0 {
		return 0, false
	}
	return n, true
}

// Near returns lo if n is less than lo, otherwise hi if n is greater than hi, and otherwise n.
func Near(n, lo, hi int) (m int) {
	if n < lo {
		return lo
	}
	if n > hi {
		return hi
	}
	return n
}

// Text returns the decimal notation of n.
func Text(n int) (s string) {
	size := countDigits(n)
	digits := make([]byte, size)
	rest := n
	for i := range size {
		// The remainder of a negative number is negative; the smallest int could not be negated as a whole.
		digit := rest % 10
		if digit < 0 {
			digit = -digit
		}
		digits[size-1-i] = byte('0' + digit)
		rest /= 10
	}
	if n < 0 {
		return "-" + string(digits)
	}
	return string(digits)
}

// countDigits returns the number of decimal digits of n.
func countDigits(n int) int {
	count := 1
	for n /= 10; n != 0; n /= 10 {
		count++
	}
	return count
}

// Parse returns the integer whose Text is s: ErrForm if there is none of any size, ErrRange if it is not in the range lo to hi.
func Parse(s string, lo, hi int) (n int, e api.Errno) {
	digits, negative := strings.CutPrefix(s, "-")
	if !isNotation(digits) || negative && digits == "0" {
		return 0, api.ErrForm
	}
	n, ok := value(digits, negative)
	if !ok || n < lo || n > hi {
		return 0, api.ErrRange
	}
	return n, api.OK
}

// isNotation reports whether s is the decimal notation of an integer of any size that is not negative.
func isNotation(s string) bool {
	if s == "" || s[0] == '0' && s != "0" {
		return false
	}
	for i := range len(s) {
		if s[i] < '0' || s[i] > '9' {
			return false
		}
	}
	return true
}

// value returns the integer with these digits and this sign, or 0 and false if it does not fit in an int.
func value(digits string, negative bool) (n int, ok bool) {
	for i := range len(digits) {
		// The digits have the sign of the number, because the smallest int is not the negation of an int.
		digit := int(digits[i] - '0')
		if negative {
			digit = -digit
		}
		if n, ok = Mul(n, 10); !ok {
			return 0, false
		}
		if n, ok = Add(n, digit); !ok {
			return 0, false
		}
	}
	return n, true
}
