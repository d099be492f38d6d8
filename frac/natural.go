package frac

import (
	"sort"

	"accounting/api"
)

// limbDigits is the number of decimal digits of a limb: MaxPart times a limb fits in an int.
const limbDigits = 9

// limbBase is 10 to the power of limbDigits.
const limbBase = 1000000000

// A natural is a nonnegative integer of any size: its limbs in base limbBase, the lowest one first; the highest one is not 0.
type natural []int

// readNatural returns the number with these digits, leading zeros included.
func readNatural(digits string) natural {
	x := make(natural, 0, len(digits)/limbDigits+1)
	for end := len(digits); end > 0; end -= limbDigits {
		limb := 0
		for i := max(0, end-limbDigits); i < end; i++ {
			limb = limb*10 + int(digits[i]-'0')
		}
		x = append(x, limb)
	}
	return trim(x)
}

// trim returns x without zeros at its high end.
func trim(x natural) natural {
	for len(x) > 0 && x[len(x)-1] == 0 {
		x = x[:len(x)-1]
	}
	return x
}

// divide returns the quotient of x by y, rounded down, and its rest; y is not 0. A quotient beyond MaxPart is
// returned as MaxPart + 1, without a rest, because no valid fraction contains it.
func divide(x, y natural) (q int, rest natural) {
	if len(x) < len(y) {
		return 0, x
	}
	q = sort.Search(api.MaxPart+1, func(q int) bool {
		_, ok := subtract(x, y, q+1)
		return !ok
	})
	if q > api.MaxPart {
		return q, nil
	}
	rest, _ = subtract(x, y, q)
	return q, rest
}

// subtract returns x - q · y, or false if that is negative; x has at least the limbs of y, and q is in the range 0 to MaxPart + 1.
func subtract(x, y natural, q int) (rest natural, ok bool) {
	rest = make(natural, len(x))
	borrow := 0
	for i := range x {
		limb := x[i] - borrow
		if i < len(y) {
			limb -= q * y[i]
		}
		borrow = 0
		if limb < 0 {
			borrow = (limbBase - 1 - limb) / limbBase
		}
		rest[i] = limb + borrow*limbBase
	}
	if borrow != 0 {
		return nil, false
	}
	return trim(rest), true
}
