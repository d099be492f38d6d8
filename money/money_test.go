package money_test

import (
	"fmt"
	"math"
	"math/big"
	"math/rand"
	"slices"
	"strings"
	"testing"

	"accounting/api"
	"accounting/money"
)

const most, least, limit = math.MaxInt, math.MinInt, api.MaxSum

// amounts are amounts at the limits, around powers of ten, and between them.
func amounts() []int {
	l := []int{0, 1, 5, 6, 9, 15, 25, 35, 45, 49, 50, 51, 149, 150, 151, 250, 2500, 4999, 5000, 5001, 15000, 25000, 25001, 123450, limit, limit - 1, limit - 5000, limit / 10, limit/10 + 1, limit / 10000, limit/10000 + 1}
	for ten := 10; ten < limit; ten *= 10 {
		l = append(l, ten-1, ten, ten+1)
	}
	r := rand.New(rand.NewSource(7))
	for range 200 {
		l = append(l, r.Intn(limit), r.Intn(100000))
	}
	for _, n := range l {
		l = append(l, -n)
	}
	return l
}

// tooLarge are amounts beyond the limit.
func tooLarge() []int {
	return []int{limit + 1, -limit - 1, 10 * limit, most, least, least + 1}
}

// wrongDigits are no numbers of digits.
func wrongDigits() []int {
	return []int{-1, 5, 6, -4, most, least}
}

// P7.1
func TestCode(t *testing.T) {
	for b := range 256 {
		s := string([]byte{byte(b)})
		want := b >= 'A' && b <= 'Z'
		for _, c := range []string{s + "AB", "A" + s + "B", "AB" + s} {
			if money.Code(c) != want {
				t.Errorf("Code(%q) is %v", c, !want)
			}
		}
	}
	for _, s := range []string{"", "A", "EU", "EURO", "eur", "Eur", "E R", "EU1", " EUR", "EUR ", "Ä", "ÄA", "€", "\xff\xff\xff", strings.Repeat("A", 300)} {
		if money.Code(s) {
			t.Errorf("Code(%q) is true", s)
		}
	}
}

// table returns n currencies with increasing codes.
func table(n int) []api.Currency {
	var l []api.Currency
	for i := range n {
		l = append(l, api.Currency{Code: "A" + string([]byte{byte('A' + i/26), byte('A' + i%26)}), Digits: i % 5})
	}
	return l
}

// P7.1
func TestTables(t *testing.T) {
	for _, n := range []int{0, 1, 2, 39, 40, 41, 100} {
		l := table(n)
		kept := slices.Clone(l)
		if ok := money.Right(l); ok != (n <= 40) {
			t.Errorf("Right of %d currencies is %v", n, ok)
		}
		for i, c := range l {
			want := i % 5
			if n > 40 {
				want = 0
			}
			if d, ok := money.Digits(l, c.Code); d != want || ok != (n <= 40) {
				t.Errorf("Digits(%s) of %d currencies = %d, %v", c.Code, n, d, ok)
			}
		}
		if !slices.Equal(l, kept) {
			t.Errorf("the table %v was changed to %v", kept, l)
		}
		for _, code := range []string{"ZZZ", "", "AA", "AAAA", "aaa", "\x00"} {
			if d, ok := money.Digits(l, code); d != 0 || ok {
				t.Errorf("Digits(%q) of %d currencies = %d, %v", code, n, d, ok)
			}
		}
	}
}

// P7.1
func TestWrongTables(t *testing.T) {
	for _, l := range [][]api.Currency{
		{{Code: "USD"}, {Code: "EUR"}}, {{Code: "EUR"}, {Code: "EUR"}}, {{Code: "CHF"}, {Code: "USD"}, {Code: "EUR"}},
		{{Code: "EUR", Digits: 5}}, {{Code: "EUR", Digits: -1}}, {{Code: "EUR", Digits: 2}, {Code: "USD", Digits: most}}, {{Code: "EUR", Digits: least}},
		{{Code: "eur", Digits: 2}}, {{}, {Code: "EUR"}}, {{Code: "EUR"}, {Code: "EURO"}}, {{Code: "EUR"}, {Code: "US1"}},
	} {
		if money.Right(l) {
			t.Errorf("Right(%v) is true", l)
		}
		for _, c := range l {
			if d, ok := money.Digits(l, c.Code); d != 0 || ok {
				t.Errorf("Digits(%v, %q) = %d, %v", l, c.Code, d, ok)
			}
		}
	}
}

// rounded returns x, rounded to an integer as mode says.
func rounded(x *big.Rat, mode int) *big.Int {
	low, rest := new(big.Int).DivMod(x.Num(), x.Denom(), new(big.Int)) // low is rounded down, as the denominator is positive
	if rest.Sign() == 0 {
		return low
	}
	high := new(big.Int).Add(low, big.NewInt(1))
	inner, outer := low, high
	if x.Sign() < 0 {
		inner, outer = high, low
	}
	half := new(big.Rat).SetFrac(rest, x.Denom()).Cmp(big.NewRat(1, 2))
	nearest := map[int]*big.Int{-1: low, 1: high}
	switch mode {
	case api.Down:
		return inner
	case api.Up:
		return outer
	case api.Half:
		nearest[0] = outer
	case api.Even:
		nearest[0] = low
		if low.Bit(0) == 1 {
			nearest[0] = high
		}
	case api.Floor:
		return low
	}
	return nearest[half]
}

// P7.2
func TestScale(t *testing.T) {
	tens := []int64{1, 10, 100, 1000, 10000}
	for _, amount := range append(amounts(), tooLarge()...) {
		for from := range 5 {
			for to := range 5 {
				for mode := api.Down; mode <= api.Floor; mode++ {
					x := new(big.Rat).SetFrac(new(big.Int).Mul(big.NewInt(int64(amount)), big.NewInt(tens[to])), big.NewInt(tens[from]))
					exact := rounded(x, mode)
					want, wantE := 0, api.ErrOver
					if amount >= -limit && amount <= limit && exact.CmpAbs(big.NewInt(limit)) <= 0 {
						want, wantE = int(exact.Int64()), api.OK
					}
					if n, e := money.Scale(amount, from, to, mode); n != want || e != wantE {
						t.Fatalf("Scale(%d, %d, %d, %d) = %d, %d, want %d, %d", amount, from, to, mode, n, e, want, wantE)
					}
				}
			}
		}
	}
}

// P7.2
func TestScaleExamples(t *testing.T) {
	for _, c := range []struct {
		amount, from, to, mode, n int
		e                         api.Errno
	}{
		{-125, 2, 1, api.Even, -12, api.OK}, {-125, 2, 1, api.Half, -13, api.OK}, {7, 0, 2, api.Down, 700, api.OK}, {limit, 0, 1, api.Down, 0, api.ErrOver}, {limit, 4, 4, api.Up, limit, api.OK},
		{limit / 10, 0, 1, api.Down, limit, api.OK}, {limit/10 + 1, 0, 1, api.Down, 0, api.ErrOver}, {-limit, 4, 0, api.Floor, -limit / 10000, api.OK}, {1, 4, 0, api.Up, 1, api.OK}, {-1, 4, 0, api.Floor, -1, api.OK},
	} {
		if n, e := money.Scale(c.amount, c.from, c.to, c.mode); n != c.n || e != c.e {
			t.Errorf("Scale(%d, %d, %d, %d) = %d, %d, want %d, %d", c.amount, c.from, c.to, c.mode, n, e, c.n, c.e)
		}
	}
}

// P7.2
func TestScaleErrors(t *testing.T) {
	places := append(wrongDigits(), 0, 2, 4)
	for _, amount := range append(tooLarge(), 0, 7, limit) {
		for _, from := range places {
			for _, to := range places {
				for _, mode := range []int{0, 6, -1, most, least} {
					if n, e := money.Scale(amount, from, to, mode); n != 0 || e != api.ErrKind {
						t.Errorf("Scale(%d, %d, %d, %d) = %d, %d, want ErrKind", amount, from, to, mode, n, e)
					}
				}
				if from >= 0 && from <= 4 && to >= 0 && to <= 4 {
					continue
				}
				if n, e := money.Scale(amount, from, to, api.Even); n != 0 || e != api.ErrArg {
					t.Errorf("Scale(%d, %d, %d, Even) = %d, %d, want ErrArg", amount, from, to, n, e)
				}
			}
		}
	}
}

// notation returns the notation of an amount of any size.
func notation(amount *big.Int, digits int) string {
	s := fmt.Sprintf("%0*s", digits+1, new(big.Int).Abs(amount).String())
	if digits > 0 {
		s = s[:len(s)-digits] + "." + s[len(s)-digits:]
	}
	if amount.Sign() < 0 {
		return "-" + s
	}
	return s
}

// P7.3
func TestTextAndBack(t *testing.T) {
	for _, amount := range amounts() {
		for digits := range 5 {
			want := notation(big.NewInt(int64(amount)), digits)
			if s, e := money.Text(amount, digits); s != want || e != api.OK {
				t.Errorf("Text(%d, %d) = %q, %d, want %q", amount, digits, s, e, want)
			}
			if n, e := money.Parse(want, digits); n != amount || e != api.OK {
				t.Errorf("Parse(%q, %d) = %d, %d, want %d", want, digits, n, e, amount)
			}
		}
	}
	for _, c := range []struct {
		amount, digits int
		s              string
	}{{-5, 2, "-0.05"}, {1200, 0, "1200"}, {0, 0, "0"}, {0, 4, "0.0000"}, {123450, 2, "1234.50"}, {-10000, 4, "-1.0000"}, {limit, 1, "100000000000000.0"}} {
		if s, e := money.Text(c.amount, c.digits); s != c.s || e != api.OK {
			t.Errorf("Text(%d, %d) = %q, %d, want %q", c.amount, c.digits, s, e, c.s)
		}
	}
}

// P7.3
func TestTextErrors(t *testing.T) {
	for _, amount := range tooLarge() {
		for digits := range 5 {
			if s, e := money.Text(amount, digits); s != "" || e != api.ErrOver {
				t.Errorf("Text(%d, %d) = %q, %d, want ErrOver", amount, digits, s, e)
			}
		}
		for _, digits := range wrongDigits() {
			for _, n := range []int{amount, 0, -5} {
				if s, e := money.Text(n, digits); s != "" || e != api.ErrArg {
					t.Errorf("Text(%d, %d) = %q, %d, want ErrArg", n, digits, s, e)
				}
			}
		}
	}
}

// P7.3
func TestParseBeyondTheLimit(t *testing.T) {
	sizes := []string{"1000000000000001", "1000000000000010", "9999999999999999", "10000000000000000", "9223372036854775807", "9223372036854775808", "18446744073709551616", "18446744073709551621", "1" + strings.Repeat("0", 400), strings.Repeat("9", 5000)}
	for _, size := range sizes {
		for _, sign := range []string{"", "-"} {
			amount, _ := new(big.Int).SetString(sign+size, 10)
			for digits := range 5 {
				s := notation(amount, digits)
				if n, e := money.Parse(s, digits); n != 0 || e != api.ErrOver {
					t.Errorf("Parse(%.40q, %d) = %d, %d, want ErrOver", s, digits, n, e)
				}
			}
		}
	}
}

// P7.3
func TestParseForm(t *testing.T) {
	big := strings.Repeat("9", 30)
	for digits, l := range map[int][]string{
		0: {"1.", "1.0", ".", "0.", "00", "-0", "01", "-01"},
		1: {"1", "1.", ".1", "1.00", "00.1", "-0.0", "0.0.", "12", "-.1", "..1", "1..", big},
		2: {"-0.00", "12.5", ".50", "012.50", "12", "1250", "12.500", "12,50", "-.50", "0", "00.00", "1.2.3", "1.2.34", "1234.5a", "12.-5", "12. 5", "12.+5", big, big + ".9", big + ".999", "0" + big + ".99", big + ".9x"},
		4: {"1.000", "1.00000", "0000", ".0000", "-0.0000", "10000"},
	} {
		for _, s := range l {
			if n, e := money.Parse(s, digits); n != 0 || e != api.ErrForm {
				t.Errorf("Parse(%q, %d) = %d, %d, want ErrForm", s, digits, n, e)
			}
		}
	}
	for _, s := range []string{"", "-", "--1", "--1.00", "+1", "+1.00", " 1.00", "1.00 ", "1 .00", "1_0.00", "1,000.00", "0x1", "1e5", "NaN", "a", "１.00", "1.０0", "1．00", "−1.00", "\x00", "\xff", "1.0\xff", "1\xff00", "/.00", ":.00", "1/00", "€1.00"} {
		for digits := range 5 {
			if n, e := money.Parse(s, digits); n != 0 || e != api.ErrForm {
				t.Errorf("Parse(%q, %d) = %d, %d, want ErrForm", s, digits, n, e)
			}
		}
	}
	for _, s := range []string{"x", "", "1", "1.00", big} {
		for _, digits := range wrongDigits() {
			if n, e := money.Parse(s, digits); n != 0 || e != api.ErrArg {
				t.Errorf("Parse(%q, %d) = %d, %d, want ErrArg", s, digits, n, e)
			}
		}
	}
}
