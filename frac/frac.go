// Package frac implements exact fractions, which are used for exchange rates, tax rates, shares and units of measure. It is layer 3: see shared/doc/03-frac.md.
package frac

import (
	"accounting/api"
	"accounting/muldiv"
	"accounting/num"
)

// Right reports whether f is valid: in lowest terms, with parts of at most MaxPart and a positive denominator.
func Right(f api.Frac) (ok bool) {
	if f.D < 1 || f.D > api.MaxPart || f.N < -api.MaxPart || f.N > api.MaxPart {
		return false
	}
	return commonDivisor([2]uint64{magnitude(f.N), magnitude(f.D)}) == 1
}

// Make returns the valid fraction that is equal to n/d: ErrArg if d is 0, ErrOver if there is none.
func Make(n, d int) (f api.Frac, e api.Errno) {
	if d == 0 {
		return api.Frac{}, api.ErrArg
	}
	parts := [2]uint64{magnitude(n), magnitude(d)}
	divisor := commonDivisor(parts)
	for i := range parts {
		parts[i] /= divisor
		if parts[i] > api.MaxPart {
			return api.Frac{}, api.ErrOver
		}
	}
	f = api.Frac{N: int(parts[0]), D: int(parts[1])}
	if (n < 0) != (d < 0) {
		f.N = -f.N
	}
	return f, api.OK
}

// Add returns a + b: ErrArg if an argument is not valid, ErrOver if the sum is no valid fraction.
func Add(a, b api.Frac) (f api.Frac, e api.Errno) {
	return checked(func(a, b api.Frac) (n, d int) {
		return a.N*b.D + b.N*a.D, a.D * b.D
	})(a, b)
}

// Sub returns a - b: ErrArg if an argument is not valid, ErrOver if the difference is no valid fraction.
func Sub(a, b api.Frac) (f api.Frac, e api.Errno) {
	return checked(func(a, b api.Frac) (n, d int) {
		return a.N*b.D - b.N*a.D, a.D * b.D
	})(a, b)
}

// Mul returns a · b: ErrArg if an argument is not valid, ErrOver if the product is no valid fraction.
func Mul(a, b api.Frac) (f api.Frac, e api.Errno) {
	return checked(func(a, b api.Frac) (n, d int) {
		return a.N * b.N, a.D * b.D
	})(a, b)
}

// Quo returns a / b: ErrArg if an argument is not valid or b is 0, ErrOver if the quotient is no valid fraction.
func Quo(a, b api.Frac) (f api.Frac, e api.Errno) {
	return checked(func(a, b api.Frac) (n, d int) {
		return a.N * b.D, a.D * b.N
	})(a, b)
}

// Cmp returns -1, 0 or 1 if a is less than, equal to, or greater than b, and 0 if one of them is not valid.
func Cmp(a, b api.Frac) (sign int) {
	if !Right(a) || !Right(b) {
		return 0
	}
	return muldiv.Cmp(a.N, b.D, b.N, a.D)
}

// Apply returns f · amount, rounded as mode says: ErrArg if f is not valid, ErrKind if mode is not a rounding mode, ErrOver if the result does not fit.
func Apply(f api.Frac, amount, mode int) (n int, e api.Errno) {
	if !Right(f) {
		return 0, api.ErrArg
	}
	return muldiv.MulDiv(f.N, amount, f.D, mode)
}

// Text returns the notation of f, such as -3/2: ErrArg if f is not valid.
func Text(f api.Frac) (s string, e api.Errno) {
	if !Right(f) {
		return "", api.ErrArg
	}
	s = num.Text(f.N)
	if f.D != 1 {
		s += "/" + num.Text(f.D)
	}
	return s, api.OK
}

// checked returns the operation that computes the parts of its result, made to check its arguments and to reduce its result.
// Valid parts are so small that their products and the sums of two products fit in an int.
func checked(parts func(a, b api.Frac) (n, d int)) func(a, b api.Frac) (api.Frac, api.Errno) {
	return func(a, b api.Frac) (api.Frac, api.Errno) {
		if !Right(a) || !Right(b) {
			return api.Frac{}, api.ErrArg
		}
		return Make(parts(a, b))
	}
}

// magnitude returns |n|, which the smallest int has only without a sign.
func magnitude(n int) uint64 {
	if n < 0 {
		return -uint64(n)
	}
	return uint64(n)
}

// commonDivisor returns the greatest common divisor of two parts that are not both 0.
func commonDivisor(parts [2]uint64) uint64 {
	for parts[1] != 0 {
		parts = [2]uint64{parts[1], parts[0] % parts[1]}
	}
	return parts[0]
}
