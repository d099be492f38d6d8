package frac_test

import (
	"math"
	"math/big"
	"math/rand"
	"strings"
	"testing"

	"accounting/api"
	"accounting/frac"
)

const most, least, part = math.MaxInt, math.MinInt, api.MaxPart

// valid returns the fraction equal to x, and ErrOver if its parts are too large.
func valid(x *big.Rat) (api.Frac, api.Errno) {
	limit := big.NewInt(part)
	if x.Num().CmpAbs(limit) > 0 || x.Denom().Cmp(limit) > 0 {
		return api.Frac{}, api.ErrOver
	}
	return api.Frac{N: int(x.Num().Int64()), D: int(x.Denom().Int64())}, api.OK
}

func rat(f api.Frac) *big.Rat { return big.NewRat(int64(f.N), int64(f.D)) }

// samples are valid fractions at the limits and between them.
func samples() []api.Frac {
	l := []api.Frac{
		{N: 0, D: 1}, {N: 1, D: 1}, {N: -1, D: 1}, {N: 1, D: 2}, {N: 1, D: 3}, {N: -3, D: 2}, {N: 5, D: 6}, {N: 3, D: 4}, {N: -1, D: 6},
		{N: part, D: 1}, {N: -part, D: 1}, {N: 1, D: part}, {N: -1, D: part}, {N: part, D: part - 1}, {N: part - 1, D: part}, {N: 1 - part, D: part},
		{N: 999983, D: 999979}, {N: 1000, D: 999}, {N: 1, D: 1000}, {N: 1, D: 1001}, {N: 500000, D: 3}, {N: 500001, D: 1}, {N: 500000, D: 1}, {N: 1, D: 524288},
	}
	r := rand.New(rand.NewSource(3))
	for range 60 {
		limit := []int{10, 1000, part}[r.Intn(3)]
		f, _ := valid(big.NewRat(int64(r.Intn(2*limit+1)-limit), int64(1+r.Intn(limit))))
		l = append(l, f)
	}
	return l
}

// wrong are fractions that are not valid.
func wrong() []api.Frac {
	return []api.Frac{
		{}, {N: 1}, {N: 0, D: 2}, {N: 0, D: -1}, {N: 2, D: 4}, {N: -6, D: 4}, {N: 1, D: -2}, {N: -1, D: -2}, {N: 3, D: 3}, {N: part, D: part},
		{N: part + 1, D: 1}, {N: -part - 1, D: 1}, {N: 1, D: part + 1}, {N: most, D: 1}, {N: least, D: 1}, {N: 1, D: most}, {N: 1, D: least}, {N: least, D: least},
	}
}

// P3.1
func TestRight(t *testing.T) {
	for _, f := range samples() {
		if !frac.Right(f) {
			t.Errorf("Right(%v) is false", f)
		}
	}
	for _, f := range wrong() {
		if frac.Right(f) {
			t.Errorf("Right(%v) is true", f)
		}
	}
	for n := -40; n <= 40; n++ {
		for d := -3; d <= 40; d++ {
			want := d > 0
			if want {
				want = rat(api.Frac{N: n, D: d}).Denom().Int64() == int64(d)
			}
			if ok := frac.Right(api.Frac{N: n, D: d}); ok != want {
				t.Errorf("Right(%d/%d) = %v", n, d, ok)
			}
		}
	}
}

// P3.1
func TestMake(t *testing.T) {
	for _, c := range []struct {
		n, d int
		f    api.Frac
		e    api.Errno
	}{
		{6, -4, api.Frac{N: -3, D: 2}, api.OK}, {-6, -4, api.Frac{N: 3, D: 2}, api.OK}, {0, -9, api.Frac{D: 1}, api.OK}, {0, least, api.Frac{D: 1}, api.OK},
		{1, 1000001, api.Frac{}, api.ErrOver}, {1000001, 1, api.Frac{}, api.ErrOver}, {-1000001, 1, api.Frac{}, api.ErrOver}, {1000000, -1, api.Frac{N: -1000000, D: 1}, api.OK},
		{1, -1000000, api.Frac{N: -1, D: 1000000}, api.OK}, {2000000, 2000002, api.Frac{}, api.ErrOver}, {2000000, 1999998, api.Frac{N: 1000000, D: 999999}, api.OK},
		{1, 0, api.Frac{}, api.ErrArg}, {0, 0, api.Frac{}, api.ErrArg}, {least, 0, api.Frac{}, api.ErrArg},
		{least, least, api.Frac{N: 1, D: 1}, api.OK}, {least, least / 4, api.Frac{N: 4, D: 1}, api.OK}, {1 << 62, least, api.Frac{N: -1, D: 2}, api.OK},
		{least, 1, api.Frac{}, api.ErrOver}, {least, -1, api.Frac{}, api.ErrOver}, {1, least, api.Frac{}, api.ErrOver}, {-1, least, api.Frac{}, api.ErrOver},
		{most, most, api.Frac{N: 1, D: 1}, api.OK}, {most, -most, api.Frac{N: -1, D: 1}, api.OK}, {most, least, api.Frac{}, api.ErrOver}, {most, most / 7, api.Frac{N: 7, D: 1}, api.OK},
	} {
		if f, e := frac.Make(c.n, c.d); f != c.f || e != c.e {
			t.Errorf("Make(%d, %d) = %v, %d, want %v, %d", c.n, c.d, f, e, c.f, c.e)
		}
	}
	r := rand.New(rand.NewSource(4))
	for range 20000 {
		k := 1 + r.Intn(1<<40)
		n, d := (r.Intn(2001)-1000)*k, (1+r.Intn(3000))*k
		f, e := frac.Make(n, -d)
		if wantF, wantE := valid(big.NewRat(int64(-n), int64(d))); f != wantF || e != wantE {
			t.Errorf("Make(%d, %d) = %v, %d, want %v, %d", n, -d, f, e, wantF, wantE)
		}
	}
}

// operation is an operation on fractions with its exact counterpart.
type operation struct {
	name  string
	do    func(a, b api.Frac) (api.Frac, api.Errno)
	exact func(z, x, y *big.Rat) *big.Rat
}

func operations() []operation {
	return []operation{
		{"Add", frac.Add, (*big.Rat).Add}, {"Sub", frac.Sub, (*big.Rat).Sub}, {"Mul", frac.Mul, (*big.Rat).Mul}, {"Quo", frac.Quo, (*big.Rat).Quo},
	}
}

// P3.2
func TestArithmetic(t *testing.T) {
	for _, op := range operations() {
		for _, a := range samples() {
			for _, b := range samples() {
				f, e := op.do(a, b)
				wantF, wantE := api.Frac{}, api.ErrArg
				if op.name != "Quo" || b.N != 0 {
					wantF, wantE = valid(op.exact(new(big.Rat), rat(a), rat(b)))
				}
				if f != wantF || e != wantE {
					t.Errorf("%s(%v, %v) = %v, %d, want %v, %d", op.name, a, b, f, e, wantF, wantE)
				}
			}
		}
	}
}

// P3.2
func TestArithmeticOfInvalidFractions(t *testing.T) {
	for _, op := range operations() {
		for _, x := range wrong() {
			for _, y := range append(samples()[:12], wrong()...) {
				if f, e := op.do(x, y); f != (api.Frac{}) || e != api.ErrArg {
					t.Errorf("%s(%v, %v) = %v, %d, want ErrArg", op.name, x, y, f, e)
				}
				if f, e := op.do(y, x); f != (api.Frac{}) || e != api.ErrArg {
					t.Errorf("%s(%v, %v) = %v, %d, want ErrArg", op.name, y, x, f, e)
				}
			}
		}
	}
}

// P3.2
func TestCmp(t *testing.T) {
	for _, a := range samples() {
		for _, b := range samples() {
			if sign := frac.Cmp(a, b); sign != rat(a).Cmp(rat(b)) {
				t.Errorf("Cmp(%v, %v) = %d", a, b, sign)
			}
		}
		for _, b := range wrong() {
			if frac.Cmp(a, b) != 0 || frac.Cmp(b, a) != 0 {
				t.Errorf("Cmp(%v, %v) or its reverse is not 0", a, b)
			}
		}
	}
}

// P3.3
func TestApply(t *testing.T) {
	for _, c := range []struct {
		f            api.Frac
		amount, mode int
		n            int
		e            api.Errno
	}{
		{api.Frac{N: 1, D: 3}, 100, api.Up, 34, api.OK}, {api.Frac{N: 1, D: 3}, 100, api.Down, 33, api.OK}, {api.Frac{N: 1, D: 3}, -100, api.Floor, -34, api.OK},
		{api.Frac{N: -1, D: 2}, 5, api.Half, -3, api.OK}, {api.Frac{N: -1, D: 2}, 5, api.Even, -2, api.OK}, {api.Frac{N: 19, D: 20}, 100, api.Half, 95, api.OK},
		{api.Frac{D: 1}, most, api.Up, 0, api.OK}, {api.Frac{N: 1, D: 1}, least, api.Up, least, api.OK}, {api.Frac{N: -1, D: 1}, most, api.Up, -most, api.OK},
		{api.Frac{N: part, D: part - 1}, 999999 * 5, api.Half, part * 5, api.OK}, {api.Frac{N: part - 1, D: part}, most, api.Down, 9223362813482738952, api.OK},
		{api.Frac{N: -1, D: 1}, least, api.Down, 0, api.ErrOver}, {api.Frac{N: 2, D: 1}, 1 << 62, api.Down, 0, api.ErrOver}, {api.Frac{N: part, D: 1}, most, api.Down, 0, api.ErrOver},
		{api.Frac{N: 2, D: 1}, most, 0, 0, api.ErrKind}, {api.Frac{N: 2, D: 1}, 1, 6, 0, api.ErrKind}, {api.Frac{N: 2, D: 1}, 1, -1, 0, api.ErrKind},
		{api.Frac{N: 2, D: 2}, 1, api.Down, 0, api.ErrArg}, {api.Frac{}, 1, 0, 0, api.ErrArg}, {api.Frac{N: 1, D: -1}, most, 9, 0, api.ErrArg},
	} {
		if n, e := frac.Apply(c.f, c.amount, c.mode); n != c.n || e != c.e {
			t.Errorf("Apply(%v, %d, %d) = %d, %d, want %d, %d", c.f, c.amount, c.mode, n, e, c.n, c.e)
		}
	}
	for _, f := range wrong() {
		if n, e := frac.Apply(f, 7, 0); n != 0 || e != api.ErrArg {
			t.Errorf("Apply(%v, 7, 0) = %d, %d, want ErrArg", f, n, e)
		}
	}
}

// P3.4
func TestTextAndBack(t *testing.T) {
	for f, want := range map[api.Frac]string{{N: -3, D: 2}: "-3/2", {D: 1}: "0", {N: part, D: 1}: "1000000", {N: -1, D: part}: "-1/1000000", {N: -7, D: 1}: "-7", {N: 5, D: 6}: "5/6"} {
		if s, e := frac.Text(f); s != want || e != api.OK {
			t.Errorf("Text(%v) = %q, %d, want %q", f, s, e, want)
		}
	}
	for _, f := range samples() {
		s, e := frac.Text(f)
		back, e2 := frac.Parse(s)
		if e != api.OK || back != f || e2 != api.OK {
			t.Errorf("Text(%v) = %q, %d, and Parse of it %v, %d", f, s, e, back, e2)
		}
	}
	for _, f := range wrong() {
		if s, e := frac.Text(f); s != "" || e != api.ErrArg {
			t.Errorf("Text(%v) = %q, %d, want ErrArg", f, s, e)
		}
	}
}

// P3.4
func TestParse(t *testing.T) {
	zeros := strings.Repeat("0", 5000)
	for s, want := range map[string]api.Frac{
		"0": {D: 1}, "7": {N: 7, D: 1}, "-7": {N: -7, D: 1}, "1000000": {N: part, D: 1}, "-1000000": {N: -part, D: 1},
		"1/2": {N: 1, D: 2}, "10/20": {N: 1, D: 2}, "-6/4": {N: -3, D: 2}, "0/5": {D: 1}, "0/1" + zeros: {D: 1}, "1/1": {N: 1, D: 1}, "1/1000000": {N: 1, D: part},
		"0.25": {N: 1, D: 4}, "-1.50": {N: -3, D: 2}, "0.0": {D: 1}, "0.000000": {D: 1}, "0.000001": {N: 1, D: part}, "-0.000001": {N: -1, D: part}, "0.999999": {N: 999999, D: part},
		"12.5": {N: 25, D: 2}, "1000000.0": {N: part, D: 1}, "1000000.000000": {N: part, D: 1}, "199999.8": {N: 999999, D: 5},
		"2000000/2000000": {N: 1, D: 1}, "-2000000/4000000": {N: -1, D: 2}, "1" + zeros + "/2" + zeros: {N: 1, D: 2}, "-3" + zeros + "/1" + zeros: {N: -3, D: 1},
		"1000000" + zeros + "/999999" + zeros: {N: part, D: part - 1}, "18446744073709551616/36893488147419103232": {N: 1, D: 2}, "9223372036854775808/9223372036854775808": {N: 1, D: 1},
	} {
		if f, e := frac.Parse(s); f != want || e != api.OK {
			t.Errorf("Parse(%.40q) = %v, %d, want %v", s, f, e, want)
		}
	}
}

// P3.4
func TestParseBeyondTheLimits(t *testing.T) {
	zeros := strings.Repeat("0", 5000)
	for _, s := range []string{
		"1000001", "-1000001", "2000001", "1/1000001", "1/1000003", "1000000.5", "200000.2", "7.070707", "1000000.000001", "-1000000.1", "1" + zeros, "-1" + zeros, "1" + zeros + ".5",
		"1/1" + zeros, "1" + zeros + "/3", "1" + zeros + "1/2" + zeros, "1" + zeros + "/1" + zeros + "1", "18446744073709551617/2", "1/18446744073709551616", "1000001/1000000", "1000000/1000001",
	} {
		if f, e := frac.Parse(s); f != (api.Frac{}) || e != api.ErrOver {
			t.Errorf("Parse(%.40q) = %v, %d, want ErrOver", s, f, e)
		}
	}
}

// P3.4
func TestParseForm(t *testing.T) {
	zeros := strings.Repeat("0", 5000)
	for _, s := range []string{
		"", "-", "--1", "+1", " 1", "1 ", "a", "1a", "007", "00", "01/2", "00.5", "-01", "-0", "-0/5", "-0.0", "-0.000000", "-0/1" + zeros,
		"/", "/2", "1/", "1/0", "1/00", "1/02", "0/0", "0/05", "1/-2", "1/+2", "1/ 2", "1 /2", "1/2/3", "1//2", "1/2.5", "1.5/2",
		".", ".5", "-.5", "1.", "1..5", "1.5.", "1.-5", "1.1234567", "0.0000000", "1.5a", "1,5", "1e3", "0x1", "1:2", "1\x00", "\xff", "１/２", "1⁄2", "-1" + zeros + "x", "0" + zeros,
	} {
		if f, e := frac.Parse(s); f != (api.Frac{}) || e != api.ErrForm {
			t.Errorf("Parse(%.40q) = %v, %d, want ErrForm", s, f, e)
		}
	}
}

// P3.4
func TestParseOfManyFractions(t *testing.T) {
	r := rand.New(rand.NewSource(5))
	for range 5000 {
		// Parts at the limits and beyond, times a common factor of up to 600 bits.
		limit := []int{20, 1000, part + 3}[r.Intn(3)]
		n, d := big.NewInt(int64(r.Intn(limit))), big.NewInt(int64(1+r.Intn(limit)))
		factor := new(big.Int).Rand(r, new(big.Int).Lsh(big.NewInt(1), uint(r.Intn(600))))
		factor.Add(factor, big.NewInt(1))
		n.Mul(n, factor)
		d.Mul(d, factor)
		if r.Intn(10) == 0 {
			n.Add(n, big.NewInt(1))
		}
		s := n.String() + "/" + d.String()
		f, e := frac.Parse(s)
		if wantF, wantE := valid(new(big.Rat).SetFrac(n, d)); f != wantF || e != wantE {
			t.Fatalf("Parse(%q) = %v, %d, want %v, %d", s, f, e, wantF, wantE)
		}
	}
}

// P3.4
func TestParseOfManyDecimals(t *testing.T) {
	r := rand.New(rand.NewSource(6))
	for range 20000 {
		limit := int64([]int{2, 100, part + 2}[r.Intn(3)])
		x := big.NewRat(1+r.Int63n(limit*part), part)
		s := "-" + x.FloatString(6)
		f, e := frac.Parse(s)
		if wantF, wantE := valid(x.Neg(x)); f != wantF || e != wantE {
			t.Fatalf("Parse(%q) = %v, %d, want %v, %d", s, f, e, wantF, wantE)
		}
	}
}
