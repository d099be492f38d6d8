// Package muldiv computes products and quotients exactly, with rounding. It is layer 2: see shared/doc/02-muldiv.md.
package muldiv

import (
	"cmp"
	"math/bits"

	"accounting/api"
)

// words is an integer of 128 bits without a sign: its high word and its low word.
type words [2]uint64

// Div returns a / b, rounded as mode says: ErrKind if mode is not a rounding mode, ErrArg if b is 0, ErrOver if the result does not fit.
func Div(a, b, mode int) (n int, e api.Errno) {
	return MulDiv(a, 1, b, mode)
}

// MulDiv returns a · b / c, rounded once as mode says: ErrKind if mode is not a rounding mode, ErrArg if c is 0, ErrOver if the result does not fit.
func MulDiv(a, b, c, mode int) (n int, e api.Errno) {
	if mode < api.Down || mode > api.Floor {
		return 0, api.ErrKind
	}
	if c == 0 {
		return 0, api.ErrArg
	}
	divisor := magnitude(c)
	quotient, rest := divide(product(a, b), divisor)
	negative := productSign(a, b)*sign(c) < 0
	up := roundsUp(mode, quotient[1]%2 != 0, rest, divisor, negative)
	return signed(quotient, up, negative)
}

// Mod returns the integer r with 0 <= r < |c| for which a · b - r is a multiple of c: ErrArg if c is 0.
func Mod(a, b, c int) (r int, e api.Errno) {
	if c == 0 {
		return 0, api.ErrArg
	}
	divisor := magnitude(c)
	_, rest := divide(product(a, b), divisor)
	if rest != 0 && productSign(a, b) < 0 {
		rest = divisor - rest
	}
	return int(rest), api.OK
}

// Cmp returns -1, 0 or 1 if a · b is less than, equal to, or greater than c · d.
func Cmp(a, b, c, d int) (sign int) {
	left, right := productSign(a, b), productSign(c, d)
	if left != right {
		return cmp.Compare(left, right)
	}
	sizes := compare(product(a, b), product(c, d))
	if left < 0 {
		return -sizes
	}
	return sizes
}

// magnitude returns |n|, which the smallest int has only without a sign.
func magnitude(n int) uint64 {
	if n < 0 {
		return -uint64(n)
	}
	return uint64(n)
}

// sign returns -1, 0 or 1 if n is negative, 0 or positive.
func sign(n int) int {
	return cmp.Compare(n, 0)
}

// productSign returns the sign of a · b.
func productSign(a, b int) int {
	return sign(a) * sign(b)
}

// product returns |a · b|.
func product(a, b int) words {
	high, low := bits.Mul64(magnitude(a), magnitude(b))
	return words{high, low}
}

// compare returns -1, 0 or 1 if x is less than, equal to, or greater than y.
func compare(x, y words) int {
	for i := range x {
		if x[i] != y[i] {
			return cmp.Compare(x[i], y[i])
		}
	}
	return 0
}

// divide returns the quotient, rounded down, and the rest of x by divisor, which is not 0.
func divide(x words, divisor uint64) (quotient words, rest uint64) {
nextWord:
	for i, word := range x {
		// Most products fit in one word: their high word takes no division.
		if rest == 0 && word < divisor {
			rest = word
			continue nextWord
		}
		// The rest is less than the divisor, so that this quotient fits in a word.
		quotient[i], rest = bits.Div64(rest, word, divisor)
	}
	return quotient, rest
}

// roundsUp reports whether a quotient that leaves this rest is rounded away from zero.
func roundsUp(mode int, odd bool, rest, divisor uint64, negative bool) bool {
	// Twice the rest may not fit in a word: compare it with what it lacks to the divisor instead.
	half := cmp.Compare(rest, divisor-rest)
	switch mode {
	case api.Up:
		return rest != 0
	case api.Half:
		return half >= 0
	case api.Even:
		return half > 0 || half == 0 && odd
	case api.Floor:
		return rest != 0 && negative
	}
	return false
}

// signed returns the quotient, plus 1 if up is true, with its sign: ErrOver if it does not fit in an int.
func signed(quotient words, up, negative bool) (n int, e api.Errno) {
	const limit = 1 << 63 // the magnitude of the smallest int
	if quotient[0] != 0 || quotient[1] > limit {
		return 0, api.ErrOver
	}
	size := quotient[1]
	if up {
		size++
	}
	if size > limit || size == limit && !negative {
		return 0, api.ErrOver
	}
	if negative {
		return int(-size), api.OK
	}
	return int(size), api.OK
}
