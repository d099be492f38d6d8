package num_test

import (
	"math"
	"math/big"
	"slices"
	"strings"
	"testing"

	"accounting/api"
	"accounting/num"
)

// edges are the integers at which wraparound, signs and digits change.
func edges() []int {
	l := []int{0, 1, -1, 2, -2, 3, -3, 7, 9, 10, -9, -10, 11, 99, 100, -120}
	for _, shift := range []int{31, 32, 33, 61, 62} {
		p := 1 << shift
		l = append(l, p-1, p, p+1, -p-1, -p, -p+1)
	}
	l = append(l, 3037000499, 3037000500, -3037000500, math.MaxInt/2, math.MinInt/2, math.MaxInt/3, math.MinInt/3)
	return append(l, math.MaxInt, math.MaxInt-1, math.MinInt, math.MinInt+1, math.MinInt+2)
}

// fits returns the value of x as an int, or 0 and false.
func fits(x *big.Int) (int, bool) {
	if !x.IsInt64() {
		return 0, false
	}
	return int(x.Int64()), true
}

func large(n int) *big.Int { return big.NewInt(int64(n)) }

// P1.1
func TestArithmeticIsExactOrRefused(t *testing.T) {
	ops := []struct {
		name  string
		do    func(a, b int) (int, bool)
		exact func(z, x, y *big.Int) *big.Int
	}{
		{"Add", num.Add, (*big.Int).Add},
		{"Sub", num.Sub, (*big.Int).Sub},
		{"Mul", num.Mul, (*big.Int).Mul},
	}
	for _, op := range ops {
		for _, a := range edges() {
			for _, b := range edges() {
				n, ok := op.do(a, b)
				wantN, wantOk := fits(op.exact(new(big.Int), large(a), large(b)))
				if n != wantN || ok != wantOk {
					t.Errorf("%s(%d, %d) = %d, %v, want %d, %v", op.name, a, b, n, ok, wantN, wantOk)
				}
			}
		}
	}
}

// P1.1
func TestNeg(t *testing.T) {
	for _, a := range edges() {
		n, ok := num.Neg(a)
		wantN, wantOk := fits(new(big.Int).Neg(large(a)))
		if n != wantN || ok != wantOk {
			t.Errorf("Neg(%d) = %d, %v, want %d, %v", a, n, ok, wantN, wantOk)
		}
	}
}

// P1.1
func TestSum(t *testing.T) {
	const most, least = math.MaxInt, math.MinInt
	lists := [][]int{
		nil, {}, {5}, {1, 2, 3}, {-4, 4}, {most}, {least},
		{most, 1, -1}, {1, most, -1}, {most, 1}, {least, -1, 1}, {least, -1},
		{least, least, most}, {least, least, most, most}, {least, least, most, most, 2},
		{most, most, most, least, least, least, 3}, {most, most, least, least, 1},
		{most, most, 2}, {least, least}, {most, most, most, most, 4},
		{least, least, least, least, most, most, most, most, 4},
	}
	for _, a := range edges() {
		for _, b := range edges() {
			for _, c := range edges() {
				lists = append(lists, []int{a, b, c})
			}
		}
	}
	for _, l := range lists {
		exact := new(big.Int)
		for _, a := range l {
			exact.Add(exact, large(a))
		}
		kept := slices.Clone(l)
		n, ok := num.Sum(l...)
		if wantN, wantOk := fits(exact); n != wantN || ok != wantOk {
			t.Errorf("Sum(%v) = %d, %v, want %d, %v", l, n, ok, wantN, wantOk)
		}
		if !slices.Equal(l, kept) {
			t.Errorf("Sum changed its arguments %v to %v", kept, l)
		}
	}
	if n, ok := num.Sum(); n != 0 || !ok {
		t.Errorf("Sum() = %d, %v", n, ok)
	}
}

// P1.2
func TestNear(t *testing.T) {
	for _, c := range []struct{ n, lo, hi, want int }{
		{4, 0, 9, 4}, {0, 0, 9, 0}, {9, 0, 9, 9}, {-1, 0, 9, 0}, {10, 0, 9, 9},
		{math.MinInt, -3, 3, -3}, {math.MaxInt, -3, 3, 3},
		{math.MinInt, math.MinInt, math.MaxInt, math.MinInt}, {math.MaxInt, math.MinInt, math.MaxInt, math.MaxInt},
		// With lo above hi, lo is looked at first.
		{4, 9, 0, 9}, {-4, 9, 0, 9}, {9, 9, 0, 0}, {12, 9, 0, 0}, {5, 5, 5, 5}, {6, 5, 5, 5}, {4, 5, 5, 5},
	} {
		if m := num.Near(c.n, c.lo, c.hi); m != c.want {
			t.Errorf("Near(%d, %d, %d) = %d, want %d", c.n, c.lo, c.hi, m, c.want)
		}
	}
}

// P1.3
func TestTextAndBack(t *testing.T) {
	for _, n := range edges() {
		s := num.Text(n)
		if want := large(n).String(); s != want {
			t.Errorf("Text(%d) = %q, want %q", n, s, want)
		}
		if back, e := num.Parse(s, math.MinInt, math.MaxInt); back != n || e != api.OK {
			t.Errorf("Parse(%q) = %d, %d", s, back, e)
		}
		if back, e := num.Parse(s, n, n); back != n || e != api.OK {
			t.Errorf("Parse(%q, %d, %d) = %d, %d", s, n, n, back, e)
		}
	}
	if s := num.Text(-120); s != "-120" {
		t.Errorf("Text(-120) = %q", s)
	}
}

// P1.3
func TestParseRange(t *testing.T) {
	const most, least = math.MaxInt, math.MinInt
	for _, c := range []struct {
		s      string
		lo, hi int
		n      int
		e      api.Errno
	}{
		{"-120", -200, 0, -120, api.OK}, {"0", 0, 0, 0, api.OK}, {"9", 0, 9, 9, api.OK}, {"10", 0, 9, 0, api.ErrRange},
		{"12", 0, 9, 0, api.ErrRange}, {"-1", 0, 9, 0, api.ErrRange}, {"5", 9, 0, 0, api.ErrRange},
		{"9223372036854775807", least, most, most, api.OK}, {"9223372036854775808", least, most, 0, api.ErrRange},
		{"-9223372036854775808", least, most, least, api.OK}, {"-9223372036854775809", least, most, 0, api.ErrRange},
		{"18446744073709551616", least, most, 0, api.ErrRange}, {"18446744073709551621", 0, 9, 0, api.ErrRange},
		{"92233720368547758070", least, most, 0, api.ErrRange}, {"-92233720368547758080", least, most, 0, api.ErrRange},
		{"1" + strings.Repeat("0", 500), least, most, 0, api.ErrRange}, {"-" + strings.Repeat("9", 500), least, most, 0, api.ErrRange},
	} {
		if n, e := num.Parse(c.s, c.lo, c.hi); n != c.n || e != c.e {
			t.Errorf("Parse(%q, %d, %d) = %d, %d, want %d, %d", c.s, c.lo, c.hi, n, e, c.n, c.e)
		}
	}
}

// P1.3
func TestParseForm(t *testing.T) {
	for _, s := range []string{
		"", "-", "--1", "-0", "00", "007", "-007", "+1", " 1", "1 ", "1-", "1.0", "1_000", "0x1", "1e3", "a", "12a", "a12",
		"/", ":", "1/", "1:", "\x00", "1\x00", "\xff", "１", "٣", "−1", "-" + strings.Repeat("0", 30), "0" + strings.Repeat("9", 30), strings.Repeat("9", 30) + "x",
	} {
		// A wrong form comes before a wrong range.
		for _, r := range [][2]int{{math.MinInt, math.MaxInt}, {0, 9}, {9, 0}} {
			if n, e := num.Parse(s, r[0], r[1]); n != 0 || e != api.ErrForm {
				t.Errorf("Parse(%q, %d, %d) = %d, %d, want ErrForm", s, r[0], r[1], n, e)
			}
		}
	}
}
