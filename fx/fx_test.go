package fx_test

import (
	"math"
	"math/big"
	"math/rand"
	"slices"
	"testing"

	"accounting/api"
	"accounting/fx"
)

const most, least, limit = math.MaxInt, math.MinInt, api.MaxSum

// rate returns an exchange rate.
func rate(cur string, kind, day, n, d int) api.Rate {
	return api.Rate{Cur: cur, Kind: kind, Day: day, F: api.Frac{N: n, D: d}}
}

// build returns the table of rates that have no error.
func build(t *testing.T, base string, l ...api.Rate) *fx.Table {
	t.Helper()
	x, at, e := fx.New(base, l...)
	if x == nil || at != 0 || e != api.OK {
		t.Fatalf("New(%s, %v) = %v, %d, %d", base, l, x, at, e)
	}
	return x
}

// example returns the table of the chapter's examples.
func example(t *testing.T) *fx.Table {
	return build(t, "EUR", rate("USD", api.Closing, 10, 9, 10), rate("USD", api.Closing, 20, 4, 5), rate("JPY", api.Closing, 1, 3, 5))
}

// P11.1
func TestNew(t *testing.T) {
	x := example(t)
	if x.Base() != "EUR" || x.Len() != 3 {
		t.Errorf("Base = %s, Len = %d", x.Base(), x.Len())
	}
	if x := build(t, "USD"); x.Base() != "USD" || x.Len() != 0 {
		t.Errorf("Base = %s, Len = %d of an empty table", x.Base(), x.Len())
	}
	build(t, "EUR", rate("USD", api.Closing, 0, 1, api.MaxPart), rate("USD", api.Average, 0, api.MaxPart, 1), rate("USD", api.Historic, 0, 1, 1), rate("USD", api.Historic, api.MaxDay, 1, 1), rate("JPY", api.Historic, 0, 1, 1))
}

// P11.1
func TestNewErrors(t *testing.T) {
	first := rate("USD", api.Closing, 5, 1, 2)
	for _, c := range []struct {
		r api.Rate
		e api.Errno
	}{
		{rate("usd", 1, 5, 1, 1), api.ErrCur}, {rate("", 1, 5, 1, 1), api.ErrCur}, {rate("USDX", 1, 5, 1, 1), api.ErrCur}, {rate("EUR", 1, 5, 1, 1), api.ErrCur},
		{rate("USD", 0, 5, 1, 1), api.ErrKind}, {rate("USD", 4, 5, 1, 1), api.ErrKind}, {rate("USD", most, 5, 1, 1), api.ErrKind}, {rate("USD", least, 5, 1, 1), api.ErrKind},
		{rate("USD", 1, -1, 1, 1), api.ErrDate}, {rate("USD", 1, api.MaxDay+1, 1, 1), api.ErrDate}, {rate("USD", 1, least, 1, 1), api.ErrDate}, {rate("USD", 1, most, 1, 1), api.ErrDate},
		{rate("USD", 1, 6, 0, 1), api.ErrArg}, {rate("USD", 1, 6, -1, 1), api.ErrArg}, {rate("USD", 1, 6, 2, 4), api.ErrArg}, {rate("USD", 1, 6, 1, 0), api.ErrArg}, {rate("USD", 1, 6, 0, 0), api.ErrArg}, {rate("USD", 1, 6, 1, -1), api.ErrArg}, {rate("USD", 1, 6, -1, -1), api.ErrArg}, {rate("USD", 1, 6, api.MaxPart+1, 1), api.ErrArg}, {rate("USD", 1, 6, 1, api.MaxPart+1), api.ErrArg}, {rate("USD", 1, 6, least, least), api.ErrArg},
		{rate("USD", 1, 5, 3, 4), api.ErrTwice}, {rate("USD", 1, 5, 1, 2), api.ErrTwice},
		// the order of the errors
		{rate("eur", 0, -1, 0, 0), api.ErrCur}, {rate("EUR", 0, -1, 0, 0), api.ErrCur}, {rate("USD", 0, -1, 0, 0), api.ErrKind}, {rate("USD", 1, -1, 0, 0), api.ErrDate}, {rate("USD", 1, 5, 0, 1), api.ErrArg},
		{rate("USD", 1, 6, 1, 2), api.OK}, {rate("USD", 2, 5, 1, 2), api.OK}, {rate("JPY", 1, 5, 1, 2), api.OK},
	} {
		wantAt := 1
		if c.e == api.OK {
			wantAt = 0
		}
		x, at, e := fx.New("EUR", first, c.r, rate("GBP", 1, 5, 1, 1))
		if (x == nil) != (c.e != api.OK) || at != wantAt || e != c.e {
			t.Errorf("New with %v = %v, %d, %d, want %d, %d", c.r, x, at, e, wantAt, c.e)
		}
	}
	// The first rate with an error counts, not the first error.
	if x, at, e := fx.New("EUR", first, rate("USD", 2, 5, 0, 1), rate("x", 1, 1, 1, 1)); x != nil || at != 1 || e != api.ErrArg {
		t.Errorf("New with two wrong rates = %v, %d, %d", x, at, e)
	}
	if x, at, e := fx.New("EUR", first, rate("JPY", 1, 5, 1, 2), rate("USD", 2, 5, 1, 2), rate("USD", 1, 4, 1, 2), first); x != nil || at != 4 || e != api.ErrTwice {
		t.Errorf("New with an early rate twice = %v, %d, %d", x, at, e)
	}
}

// P11.1
func TestNewLimits(t *testing.T) {
	var l []api.Rate
	for i := range 2000 {
		l = append(l, rate("USD", api.Closing, i, 1, i+1))
	}
	if x := build(t, "EUR", l...); x.Len() != 2000 {
		t.Errorf("Len = %d", x.Len())
	}
	if x, at, e := fx.New("EUR", append(l, rate("USD", api.Closing, 2000, 1, 1))...); x != nil || at != 0 || e != api.ErrMany {
		t.Errorf("New of 2001 rates = %v, %d, %d", x, at, e)
	}
	if x, at, e := fx.New("EUR", make([]api.Rate, 2001)...); x != nil || at != 0 || e != api.ErrMany {
		t.Errorf("New of 2001 wrong rates = %v, %d, %d", x, at, e)
	}
	for _, base := range []string{"", "eur", "EU", "EURO", "E1R", "\xff\xff\xff"} {
		for _, rates := range [][]api.Rate{nil, l, make([]api.Rate, 2001), {rate("x", 0, 0, 0, 0)}} {
			if x, at, e := fx.New(base, rates...); x != nil || at != 0 || e != api.ErrCur {
				t.Errorf("New with the base %q = %v, %d, %d", base, x, at, e)
			}
		}
	}
}

// randomTable returns a table and its rates.
func randomTable(t *testing.T, r *rand.Rand) (*fx.Table, []api.Rate) {
	var l []api.Rate
	taken := map[api.Rate]bool{}
	for range r.Intn(40) {
		x := rate([]string{"USD", "JPY", "GBP"}[r.Intn(3)], 1+r.Intn(3), []int{r.Intn(20), api.MaxDay - r.Intn(3)}[r.Intn(10)/9], 0, 0)
		if taken[x] {
			continue
		}
		taken[x] = true
		part := []int64{10, 1000, api.MaxPart}[r.Intn(3)]
		f := big.NewRat(1+r.Int63n(part), 1+r.Int63n(part))
		x.F = api.Frac{N: int(f.Num().Int64()), D: int(f.Denom().Int64())}
		l = append(l, x)
	}
	return build(t, "EUR", l...), l
}

// find returns the result of Find for right arguments, as the chapter describes it.
func find(l []api.Rate, cur string, kind, day int) (api.Frac, api.Errno) {
	if cur == "EUR" {
		return api.Frac{N: 1, D: 1}, api.OK
	}
	best := api.Rate{Day: -1}
	for _, r := range l {
		if r.Cur == cur && r.Kind == kind && r.Day <= day && r.Day > best.Day {
			best = r
		}
	}
	if best.Day < 0 {
		return api.Frac{}, api.ErrRate
	}
	return best.F, api.OK
}

// P11.2
func TestFind(t *testing.T) {
	r := rand.New(rand.NewSource(112))
	for range 300 {
		x, l := randomTable(t, r)
		for _, cur := range []string{"EUR", "USD", "JPY", "GBP", "CHF"} {
			for kind := api.Closing; kind <= api.Historic; kind++ {
				for _, day := range []int{0, 1, 2, 3, 5, 8, 12, 15, 18, 19, 20, 1000, api.MaxDay - 2, api.MaxDay - 1, api.MaxDay} {
					want, wantE := find(l, cur, kind, day)
					if f, e := x.Find(cur, kind, day); f != want || e != wantE {
						t.Fatalf("Find(%s, %d, %d) = %v, %d, want %v, %d for %v", cur, kind, day, f, e, want, wantE, l)
					}
				}
			}
		}
	}
}

// P11.2
func TestFindExamplesAndErrors(t *testing.T) {
	x := example(t)
	for _, c := range []struct {
		cur       string
		kind, day int
		f         api.Frac
		e         api.Errno
	}{
		{"USD", 1, 19, api.Frac{N: 9, D: 10}, api.OK}, {"USD", 1, 9, api.Frac{}, api.ErrRate}, {"USD", 1, 10, api.Frac{N: 9, D: 10}, api.OK}, {"USD", 1, 20, api.Frac{N: 4, D: 5}, api.OK}, {"USD", 1, api.MaxDay, api.Frac{N: 4, D: 5}, api.OK}, {"JPY", 1, 0, api.Frac{}, api.ErrRate}, {"JPY", 1, 1, api.Frac{N: 3, D: 5}, api.OK},
		{"USD", 2, 19, api.Frac{}, api.ErrRate}, {"USD", 3, 19, api.Frac{}, api.ErrRate}, {"CHF", 1, 19, api.Frac{}, api.ErrRate}, {"EUR", 1, 0, api.Frac{N: 1, D: 1}, api.OK}, {"EUR", 3, api.MaxDay, api.Frac{N: 1, D: 1}, api.OK},
		{"usd", 0, -1, api.Frac{}, api.ErrCur}, {"", 1, 1, api.Frac{}, api.ErrCur}, {"USDX", 1, 1, api.Frac{}, api.ErrCur},
		{"USD", 0, -1, api.Frac{}, api.ErrKind}, {"USD", 4, -1, api.Frac{}, api.ErrKind}, {"EUR", 0, 1, api.Frac{}, api.ErrKind}, {"EUR", most, 1, api.Frac{}, api.ErrKind}, {"CHF", least, 1, api.Frac{}, api.ErrKind},
		{"USD", 1, -1, api.Frac{}, api.ErrDate}, {"USD", 1, api.MaxDay + 1, api.Frac{}, api.ErrDate}, {"EUR", 1, -1, api.Frac{}, api.ErrDate}, {"CHF", 1, most, api.Frac{}, api.ErrDate}, {"CHF", 1, least, api.Frac{}, api.ErrDate},
	} {
		if f, e := x.Find(c.cur, c.kind, c.day); f != c.f || e != c.e {
			t.Errorf("Find(%q, %d, %d) = %v, %d, want %v, %d", c.cur, c.kind, c.day, f, e, c.f, c.e)
		}
	}
}

// P11.2 and P11.3
func TestNilTable(t *testing.T) {
	var x *fx.Table
	if x.Base() != "" || x.Len() != 0 {
		t.Errorf("Base = %q, Len = %d", x.Base(), x.Len())
	}
	for _, cur := range []string{"", "EUR"} {
		for _, kind := range []int{0, 1} {
			if f, e := x.Find(cur, kind, 1); f != (api.Frac{}) || e != api.ErrNone {
				t.Errorf("Find = %v, %d", f, e)
			}
			if n, d, e := x.Cross(cur, cur, kind, 1); n != 0 || d != 0 || e != api.ErrNone {
				t.Errorf("Cross = %d, %d, %d", n, d, e)
			}
			for _, mode := range []int{0, api.Half} {
				if n, e := x.Convert(most, cur, cur, kind, 1, mode); n != 0 || e != api.ErrNone {
					t.Errorf("Convert = %d, %d", n, e)
				}
			}
		}
	}
}

// P11.2: a table does not depend on the memory with which it was made.
func TestTableKeepsItsRates(t *testing.T) {
	whole := []api.Rate{rate("USD", 1, 20, 4, 5), rate("USD", 1, 10, 9, 10), rate("JPY", 1, 1, 3, 5), rate("GBP", 1, 1, 1, 1)}
	kept := slices.Clone(whole)
	l := whole[:3]
	x := build(t, "EUR", l...)
	if !slices.Equal(whole, kept) {
		t.Errorf("New changed %v to %v", kept, whole)
	}
	clear(l)
	if f, e := x.Find("USD", 1, 15); f != (api.Frac{N: 9, D: 10}) || e != api.OK {
		t.Errorf("Find = %v, %d", f, e)
	}
}

// cross returns the quotient of two rates.
func cross(f, g api.Frac) *big.Rat {
	return new(big.Rat).Quo(big.NewRat(int64(f.N), int64(f.D)), big.NewRat(int64(g.N), int64(g.D)))
}

// rounded returns x, rounded to an integer as mode says.
func rounded(x *big.Rat, mode int) *big.Int {
	low := new(big.Int).Div(x.Num(), x.Denom()) // rounded down, as the denominator is positive
	if x.IsInt() {
		return low
	}
	high := new(big.Int).Add(low, big.NewInt(1))
	half := new(big.Rat).Sub(x, new(big.Rat).SetInt(low)).Cmp(big.NewRat(1, 2))
	away := half > 0 || half == 0 && x.Sign() > 0
	switch mode {
	case api.Down:
		away = x.Sign() < 0
	case api.Up:
		away = x.Sign() > 0
	case api.Even:
		away = half > 0 || half == 0 && low.Bit(0) == 1
	case api.Floor:
		away = false
	}
	if away {
		return high
	}
	return low
}

// P11.3
func TestCrossAndConvert(t *testing.T) {
	r := rand.New(rand.NewSource(113))
	curs := []string{"EUR", "USD", "JPY", "GBP", "CHF"}
	overs := 0
	for range 20000 {
		x, l := randomTable(t, r)
		from, to := curs[r.Intn(5)], curs[r.Intn(5)]
		kind, day := 1+r.Intn(3), []int{r.Intn(25), api.MaxDay}[r.Intn(2)]
		f, e := find(l, from, kind, day)
		if e == api.OK {
			var g api.Frac
			if g, e = find(l, to, kind, day); e == api.OK {
				overs += checkCross(t, x, r, from, to, kind, day, cross(f, g))
				continue
			}
		}
		n, d, crossE := x.Cross(from, to, kind, day)
		m, convertE := x.Convert(5, from, to, kind, day, api.Half)
		if n != 0 || d != 0 || m != 0 || crossE != e || convertE != e {
			t.Fatalf("Cross and Convert from %s to %s = %d, %d, %d, %d, %d, want error %d", from, to, n, d, crossE, m, convertE, e)
		}
	}
	if overs < 100 {
		t.Errorf("only %d results were too large", overs)
	}
}

// checkCross compares Cross and Convert with the quotient of the rates. It returns the number of results that were too large.
func checkCross(t *testing.T, x *fx.Table, r *rand.Rand, from, to string, kind, day int, q *big.Rat) (overs int) {
	if n, d, e := x.Cross(from, to, kind, day); int64(n) != q.Num().Int64() || int64(d) != q.Denom().Int64() || e != api.OK {
		t.Fatalf("Cross(%s, %s) = %d, %d, %d, want %s", from, to, n, d, e, q)
	}
	for _, size := range []int{0, 1, 5, r.Intn(1000), r.Intn(limit), limit, limit + 1, most} {
		amount := size * (1 - 2*r.Intn(2))
		for mode := api.Down; mode <= api.Floor; mode++ {
			exact := rounded(new(big.Rat).Mul(q, new(big.Rat).SetInt64(int64(amount))), mode)
			want, wantE := 0, api.ErrOver
			if size <= limit && exact.CmpAbs(big.NewInt(limit)) <= 0 {
				want, wantE = int(exact.Int64()), api.OK
			} else {
				overs++
			}
			if n, e := x.Convert(amount, from, to, kind, day, mode); n != want || e != wantE {
				t.Fatalf("Convert(%d, %s, %s, mode %d) at %s = %d, %d, want %d, %d", amount, from, to, mode, q, n, e, want, wantE)
			}
		}
	}
	return overs
}

// P11.3
func TestCrossExamples(t *testing.T) {
	x := example(t)
	for _, c := range []struct {
		from, to string
		day      int
		n, d     int
		e        api.Errno
	}{
		{"USD", "JPY", 20, 4, 3, api.OK}, {"JPY", "USD", 20, 3, 4, api.OK}, {"USD", "EUR", 19, 9, 10, api.OK}, {"EUR", "USD", 19, 10, 9, api.OK}, {"USD", "USD", 10, 1, 1, api.OK}, {"EUR", "EUR", 0, 1, 1, api.OK},
		{"USD", "USD", 9, 0, 0, api.ErrRate}, {"CHF", "CHF", 10, 0, 0, api.ErrRate}, {"USD", "CHF", 10, 0, 0, api.ErrRate}, {"CHF", "usd", 10, 0, 0, api.ErrRate}, {"USD", "usd", 10, 0, 0, api.ErrCur}, {"usd", "CHF", 10, 0, 0, api.ErrCur}, {"USD", "", -1, 0, 0, api.ErrDate}, {"", "", -1, 0, 0, api.ErrCur},
	} {
		if n, d, e := x.Cross(c.from, c.to, api.Closing, c.day); n != c.n || d != c.d || e != c.e {
			t.Errorf("Cross(%s, %s, %d) = %d, %d, %d", c.from, c.to, c.day, n, d, e)
		}
	}
	if n, d, e := x.Cross("USD", "x", 0, 10); n != 0 || d != 0 || e != api.ErrKind {
		t.Errorf("Cross with a wrong kind = %d, %d, %d", n, d, e)
	}
	if n, e := x.Convert(101, "USD", "JPY", api.Closing, 20, api.Half); n != 135 || e != api.OK {
		t.Errorf("Convert of the example = %d, %d", n, e)
	}
	// The largest parts that a quotient can have.
	wide := build(t, "EUR", rate("AAA", 1, 0, 999999, 1000000), rate("BBB", 1, 0, 999983, 999999), rate("CCC", 1, 0, 1, 1000000), rate("DDD", 1, 0, 1000000, 1), rate("EEE", 1, 0, 999979, 1000000), rate("FFF", 1, 0, 999983, 999998))
	for _, c := range []struct {
		from, to string
		n, d     int
	}{{"CCC", "DDD", 1, 1000000000000}, {"DDD", "CCC", 1000000000000, 1}, {"AAA", "BBB", 999999 * 999999, 1000000 * 999983}, {"EEE", "FFF", 999979 * 499999, 500000 * 999983}} {
		if n, d, e := wide.Cross(c.from, c.to, 1, 0); n != c.n || d != c.d || e != api.OK {
			t.Errorf("Cross(%s, %s) = %d, %d, %d, want %d, %d", c.from, c.to, n, d, e, c.n, c.d)
		}
	}
}

// P11.3
func TestConvertErrors(t *testing.T) {
	x := example(t)
	for _, c := range []struct {
		amount          int
		from, to        string
		kind, day, mode int
		n               int
		e               api.Errno
	}{
		{limit + 1, "usd", "x", 0, -1, 0, 0, api.ErrKind}, {1, "USD", "EUR", 1, 10, 6, 0, api.ErrKind}, {1, "USD", "EUR", 1, 10, -1, 0, api.ErrKind}, {1, "USD", "EUR", 1, 10, most, 0, api.ErrKind}, {1, "USD", "EUR", 1, 10, least, 0, api.ErrKind},
		{limit + 1, "usd", "x", 0, -1, 1, 0, api.ErrCur}, {limit + 1, "USD", "x", 0, -1, 1, 0, api.ErrKind}, {limit + 1, "USD", "x", 1, -1, 1, 0, api.ErrDate}, {limit + 1, "USD", "x", 1, 9, 1, 0, api.ErrRate}, {limit + 1, "USD", "x", 1, 10, 1, 0, api.ErrCur}, {least, "USD", "CHF", 1, 10, 1, 0, api.ErrRate},
		{limit + 1, "USD", "EUR", 1, 10, 1, 0, api.ErrOver}, {-limit - 1, "USD", "EUR", 1, 10, 1, 0, api.ErrOver}, {most, "USD", "EUR", 1, 10, 1, 0, api.ErrOver}, {least, "USD", "EUR", 1, 10, 1, 0, api.ErrOver}, {least, "EUR", "EUR", 1, 10, 1, 0, api.ErrOver},
		{limit, "EUR", "USD", 1, 10, 1, 0, api.ErrOver}, {-limit, "EUR", "USD", 1, 10, 1, 0, api.ErrOver}, {limit, "EUR", "EUR", 1, 10, 1, limit, api.OK}, {-limit, "USD", "USD", 1, 10, 1, -limit, api.OK}, {limit, "USD", "EUR", 1, 10, 1, limit / 10 * 9, api.OK},
		{limit / 10 * 9, "EUR", "USD", 1, 10, 1, limit, api.OK}, {limit/10*9 + 1, "EUR", "USD", 1, 10, api.Down, 0, api.ErrOver}, {-(limit/10*9 + 1), "EUR", "USD", 1, 10, api.Half, 0, api.ErrOver},
	} {
		if n, e := x.Convert(c.amount, c.from, c.to, c.kind, c.day, c.mode); n != c.n || e != c.e {
			t.Errorf("Convert(%d, %q, %q, %d, %d, %d) = %d, %d, want %d, %d", c.amount, c.from, c.to, c.kind, c.day, c.mode, n, e, c.n, c.e)
		}
	}
	// The result is rounded before it is compared with the limit: here it exceeds the limit by 1/2.
	near := build(t, "EUR", rate("AAA", 1, 0, 3, 2))
	for mode, want := range map[int]int{api.Down: limit, api.Floor: limit, api.Even: limit, api.Up: 0, api.Half: 0} {
		wantE := api.OK
		if want == 0 {
			wantE = api.ErrOver
		}
		if n, e := near.Convert(666666666666667, "AAA", "EUR", 1, 0, mode); n != want || e != wantE {
			t.Errorf("Convert beyond the limit with the mode %d = %d, %d", mode, n, e)
		}
	}
}
