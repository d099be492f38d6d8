package frac

import (
	"strings"

	"accounting/api"
)

// Parse returns the fraction with the notation s: ErrForm if s is not a, a/b or a decimal number, ErrOver if its value is no valid fraction.
func Parse(s string) (f api.Frac, e api.Errno) {
	digits, negative := strings.CutPrefix(s, "-")
	above, below, ok := quotientOf(digits)
	if !ok {
		return api.Frac{}, api.ErrForm
	}
	n, d := readNatural(above), readNatural(below)
	if negative && len(n) == 0 {
		return api.Frac{}, api.ErrForm
	}
	f, ok = reduce(n, d)
	if !ok {
		return api.Frac{}, api.ErrOver
	}
	if negative {
		f.N = -f.N
	}
	return f, api.OK
}

// quotientOf returns the digits above and below the line of the fraction with the notation s, which has no sign.
func quotientOf(s string) (above, below string, ok bool) {
	whole, rest := leadingDigits(s)
	if whole == "" || whole[0] == '0' && whole != "0" {
		return "", "", false
	}
	if rest == "" {
		return whole, "1", true
	}
	part, after := leadingDigits(rest[1:])
	if part == "" || after != "" {
		return "", "", false
	}
	switch {
	case rest[0] == '/' && part[0] != '0':
		return whole, part, true
	case rest[0] == '.' && len(part) <= 6:
		return whole + part, "1" + strings.Repeat("0", len(part)), true
	}
	return "", "", false
}

// leadingDigits returns the digits with which s begins, and the rest of s.
func leadingDigits(s string) (digits, rest string) {
	size := 0
	for size < len(s) && s[size] >= '0' && s[size] <= '9' {
		size++
	}
	return s[:size], s[size:]
}

// reduce returns the valid fraction that is equal to n/d, or false if there is none; d is not 0.
//
// It expands n/d into a continued fraction, whose last convergent is n/d in lowest terms. Convergents
// only grow, so that it can stop at the first one with a part beyond MaxPart: after about 30 steps at
// the most, however many digits n and d have.
func reduce(n, d natural) (f api.Frac, ok bool) {
	parts := [2]natural{n, d}
	before, last := [2]int{0, 1}, [2]int{1, 0}
	for len(parts[1]) > 0 {
		q, rest := divide(parts[0], parts[1])
		parts = [2]natural{parts[1], rest}
		before, last = last, [2]int{q*last[0] + before[0], q*last[1] + before[1]}
		if last[0] > api.MaxPart || last[1] > api.MaxPart {
			return api.Frac{}, false
		}
	}
	return api.Frac{N: last[0], D: last[1]}, true
}
