package deprec_test

import (
	"math"
	"math/big"
	"math/rand"
	"slices"
	"testing"

	"accounting/api"
	"accounting/deprec"
	"accounting/split"
)

const most, least, limit = math.MaxInt, math.MinInt, api.MaxAmount

// methods are all methods of depreciation.
var methods = []int{api.Straight, api.Declining, api.Digits, api.Usage}

// plan returns a plan that has what each method needs: the rate 1/4 and the units 1, 2, 3 and so on.
func plan(method, cost, salvage, periods int) api.Plan {
	p := api.Plan{Method: method, Cost: cost, Salvage: salvage, Periods: periods, F: api.Frac{N: 1, D: 4}}
	for i := range min(max(periods, 0), 300) {
		p.Units = append(p.Units, i+1)
	}
	return p
}

// declining returns a plan with the rate n/d.
func declining(cost, salvage, periods, n, d int) api.Plan {
	return api.Plan{Method: api.Declining, Cost: cost, Salvage: salvage, Periods: periods, F: api.Frac{N: n, D: d}}
}

// usage returns a plan with these units.
func usage(cost, salvage int, units ...int) api.Plan {
	return api.Plan{Method: api.Usage, Cost: cost, Salvage: salvage, Periods: len(units), Units: units}
}

// repeated returns n equal numbers.
func repeated(number, n int) []int {
	return slices.Repeat([]int{number}, n)
}

// sum returns the sum of l.
func sum(l []int) (n int) {
	for _, x := range l {
		n += x
	}
	return n
}

// wantSchedule fails unless Check returns OK, Schedule these amounts, and After the book values after them.
func wantSchedule(t *testing.T, p api.Plan, wanted ...int) {
	t.Helper()
	if e := deprec.Check(p); e != api.OK {
		t.Fatalf("Check(%v) = %d", p, e)
	}
	if l, e := deprec.Schedule(p); !slices.Equal(l, wanted) || e != api.OK {
		t.Fatalf("Schedule(%v) = %v, %d, want %v", p, l, e, wanted)
	}
	for n := range p.Periods + 1 {
		if book, e := deprec.After(p, n); book != p.Cost-sum(wanted[:n]) || e != api.OK {
			t.Fatalf("After(%v, %d) = %d, %d, want %d", p, n, book, e, p.Cost-sum(wanted[:n]))
		}
	}
}

// wantError fails unless all functions return this error and nothing else, whichever number of periods is asked for.
func wantError(t *testing.T, p api.Plan, wanted api.Errno) {
	t.Helper()
	if e := deprec.Check(p); e != wanted {
		t.Errorf("Check(%v) = %d, want %d", p, e, wanted)
	}
	if l, e := deprec.Schedule(p); len(l) != 0 || e != wanted {
		t.Errorf("Schedule(%v) = %v, %d, want %d", p, l, e, wanted)
	}
	for _, n := range []int{0, 1, -1, p.Periods, api.MaxParts, api.MaxParts + 1, most, least} {
		if book, e := deprec.After(p, n); book != 0 || e != wanted {
			t.Errorf("After(%v, %d) = %d, %d, want %d", p, n, book, e, wanted)
		}
	}
}

// P30.1, P30.2: the chapter's examples.
func TestExamples(t *testing.T) {
	wantSchedule(t, api.Plan{Method: api.Straight, Cost: 1000, Periods: 3}, 333, 334, 333)
	wantSchedule(t, declining(1000, 100, 4, 2, 5), 400, 240, 144, 116)
	digits := api.Plan{Method: api.Digits, Cost: 600, Periods: 3}
	wantSchedule(t, digits, 300, 200, 100)
	if book, e := deprec.After(digits, 2); book != 100 || e != api.OK {
		t.Errorf("After(%v, 2) = %d, %d", digits, book, e)
	}
	wantSchedule(t, usage(110, 10, 1, 0, 3), 25, 0, 75)
}

// P30.1: halves are rounded to the even integer, up and down.
func TestStraight(t *testing.T) {
	for _, c := range []struct {
		cost, salvage, periods int
		wanted                 []int
	}{
		{1, 0, 1, []int{1}}, {1, 1, 1, []int{0}}, {7, 7, 3, []int{0, 0, 0}}, {9, 2, 1, []int{7}}, {limit, 0, 1, []int{limit}}, {limit, limit, 2, []int{0, 0}},
		// R is 1/2, 1; 3/2, 3; 5/2, 5.
		{1, 0, 2, []int{0, 1}}, {3, 0, 2, []int{2, 1}}, {5, 0, 2, []int{2, 3}}, {8, 5, 2, []int{2, 1}}, {limit, 1, 2, []int{limit / 2, limit/2 - 1}},
		// R is 1/2, 1, 3/2, 2, 5/2, 3 and so on.
		{4, 0, 8, []int{0, 1, 1, 0, 0, 1, 1, 0}},
		{2, 0, 5, []int{0, 1, 0, 1, 0}}, {10, 3, 4, []int{2, 2, 1, 2}}, {limit, 0, 3, []int{333333333333, 333333333334, 333333333333}},
	} {
		wantSchedule(t, api.Plan{Method: api.Straight, Cost: c.cost, Salvage: c.salvage, Periods: c.periods}, c.wanted...)
	}
	wantSchedule(t, api.Plan{Method: api.Straight, Cost: 600, Salvage: 200, Periods: 200}, repeated(2, 200)...)
}

// P30.1: a part of the book value, equal amounts where these are larger, and never more than what is left.
func TestDeclining(t *testing.T) {
	wantSchedule(t, declining(100, 90, 3, 1, 2), 10, 0, 0)
	wantSchedule(t, declining(100, 10, 3, 1, 10), 30, 30, 30)
	wantSchedule(t, declining(1, 0, 1, 1, 2), 1)
	wantSchedule(t, declining(9, 9, 2, 1, 2), 0, 0)
	wantSchedule(t, declining(9, 2, 1, 1, 1000), 7)
	// Both are rounded down: 17 · 1/3 is 5, 12 · 1/3 is 4, 8/2 is 4.
	wantSchedule(t, declining(17, 0, 4, 1, 3), 5, 4, 4, 4)
	// 11/3 is 3, 8/2 is 4.
	wantSchedule(t, declining(11, 0, 3, 1, 100), 3, 4, 4)
	// The part is of the whole book value, the equal amount of what is above the salvage.
	wantSchedule(t, declining(1000, 500, 5, 1, 10), 100, 100, 100, 100, 100)
	wantSchedule(t, declining(1000, 500, 5, 1, 5), 200, 160, 128, 12, 0)
	// The last period takes what is left, even if the part is smaller or larger.
	wantSchedule(t, declining(1000, 0, 2, 999, 1000), 999, 1)
	wantSchedule(t, declining(1000, 999, 2, 999, 1000), 1, 0)
	wantSchedule(t, declining(3, 0, 5, 1, 4), 0, 0, 1, 1, 1)
	wantSchedule(t, declining(limit, 0, 3, 999999, 1000000), 999999000000, 999999, 1)
	wantSchedule(t, declining(limit, 0, 2, 1, 1000000), limit/2, limit/2)
}

// P30.1: the shares for falling weights.
func TestDigits(t *testing.T) {
	for _, c := range []struct {
		cost, salvage, periods int
		wanted                 []int
	}{
		{1, 0, 1, []int{1}}, {5, 5, 2, []int{0, 0}}, {10, 0, 2, []int{7, 3}}, {10, 7, 2, []int{2, 1}},
		// Of 30/6, 20/6 and 10/6 the last one has the largest remainder.
		{10, 0, 3, []int{5, 3, 2}}, {1, 0, 2, []int{1, 0}}, {2, 0, 3, []int{1, 1, 0}}, {limit, 0, 3, []int{500000000000, 333333333333, 166666666667}}, {limit, 0, 4, []int{400000000000, 300000000000, 200000000000, 100000000000}},
	} {
		wantSchedule(t, api.Plan{Method: api.Digits, Cost: c.cost, Salvage: c.salvage, Periods: c.periods}, c.wanted...)
	}
	var wanted []int
	for n := 200; n > 0; n-- {
		wanted = append(wanted, 3*n)
	}
	wantSchedule(t, api.Plan{Method: api.Digits, Cost: 60301, Salvage: 1, Periods: 200}, wanted...)
}

// P30.1: the shares for the units.
func TestUsage(t *testing.T) {
	wantSchedule(t, usage(1, 0, 1), 1)
	wantSchedule(t, usage(5, 0, 1, 1), 3, 2)
	wantSchedule(t, usage(5, 5, 1, 1), 0, 0)
	wantSchedule(t, usage(11, 1, 0, 0, api.MaxQty), 0, 0, 10)
	wantSchedule(t, usage(8, 1, 3, 0, 1), 5, 0, 2)
	wantSchedule(t, usage(10, 0, 3, 3, 1), 4, 4, 2)
	wantSchedule(t, usage(limit, 0, api.MaxQty, api.MaxQty), limit/2, limit/2)
	wantSchedule(t, usage(limit, 0, repeated(api.MaxQty, 200)...), repeated(limit/200, 200)...)
}

// P30.1: F and Units are ignored by the methods that do not use them.
func TestIgnoredFields(t *testing.T) {
	for _, f := range []api.Frac{{}, {N: 1, D: 0}, {N: 2, D: 4}, {N: 5, D: 1}, {N: most, D: least}} {
		for _, units := range [][]int{nil, {}, {0, 0, 0}, {-1}, {most, most, most}, repeated(1, 1000)} {
			wantSchedule(t, api.Plan{Method: api.Straight, Cost: 1000, Periods: 3, F: f, Units: units}, 333, 334, 333)
			wantSchedule(t, api.Plan{Method: api.Digits, Cost: 600, Periods: 3, F: f, Units: units}, 300, 200, 100)
			wantSchedule(t, api.Plan{Method: api.Usage, Cost: 110, Salvage: 10, Periods: 3, F: f, Units: []int{1, 0, 3}}, 25, 0, 75)
			wantSchedule(t, api.Plan{Method: api.Declining, Cost: 1000, Salvage: 100, Periods: 4, F: api.Frac{N: 2, D: 5}, Units: units}, 400, 240, 144, 116)
		}
	}
}

// P30.1: plans at the limits.
func TestLimits(t *testing.T) {
	for _, method := range methods {
		for _, cost := range []int{1, 2, limit} {
			for _, salvage := range []int{0, 1, cost - 1, cost} {
				for _, periods := range []int{1, 2, api.MaxParts} {
					if e := deprec.Check(plan(method, cost, salvage, periods)); e != api.OK {
						t.Errorf("Check of method %d, %d, %d, %d = %d", method, cost, salvage, periods, e)
					}
				}
			}
		}
	}
	for _, f := range []api.Frac{{N: 1, D: api.MaxPart}, {N: api.MaxPart - 1, D: api.MaxPart}, {N: 1, D: 2}} {
		if e := deprec.Check(declining(5, 1, 2, f.N, f.D)); e != api.OK {
			t.Errorf("Check with the rate %v = %d", f, e)
		}
	}
	for _, units := range [][]int{{1}, {api.MaxQty}, {0, 1}, {1, 0}, {0, 0, api.MaxQty}, repeated(1, 200)} {
		if e := deprec.Check(usage(5, 1, units...)); e != api.OK {
			t.Errorf("Check with the units %v = %d", units, e)
		}
	}
}

// wrongPlans are changes of a plan that lead to an error whatever else is wrong behind them, in the order of the errors. The last ones concern a single method.
func wrongPlans() (kinds, ranges, rates, units []func(p *api.Plan)) {
	for _, n := range []int{0, -1, 5, 6, most, least} {
		kinds = append(kinds, func(p *api.Plan) { p.Method = n })
	}
	for _, n := range []int{0, -1, limit + 1, -limit, most, least} {
		ranges = append(ranges, func(p *api.Plan) { p.Cost = n })
	}
	for _, n := range []int{-1, 101, 102, limit, limit + 1, most, least} {
		ranges = append(ranges, func(p *api.Plan) { p.Salvage = n })
	}
	for _, n := range []int{0, -1, 201, 1000, most, least} {
		ranges = append(ranges, func(p *api.Plan) { p.Periods = n })
	}
	ranges = append(ranges, func(p *api.Plan) { p.Cost, p.Salvage = 0, 0 }, func(p *api.Plan) { p.Cost, p.Salvage = limit+1, limit+1 }, func(p *api.Plan) { p.Cost, p.Salvage = -1, -2 })
	for _, f := range []api.Frac{{}, {N: 0, D: 1}, {N: 1, D: 1}, {N: 2, D: 1}, {N: 3, D: 2}, {N: -1, D: 2}, {N: 1, D: 0}, {N: 1, D: -2}, {N: -1, D: -2}, {N: 2, D: 4}, {N: 1, D: api.MaxPart + 1}, {N: 0, D: 2}, {N: most, D: most}, {N: least, D: least}, {N: 1, D: most}, {N: least, D: 1}} {
		rates = append(rates, func(p *api.Plan) { p.F = f })
	}
	for _, l := range [][]int{nil, {}, {1}, {1, 2, 3}, {1, 2, 3, 4, 5}, {0, 0, 0, 0}, {-1, 2, 3, 4}, {1, 2, 3, -1}, {1, 2, 3, api.MaxQty + 1}, {api.MaxQty + 1, 0, 0, 0}, {1, -1, 1, -1}, {0, 0, 0, -1}, {most, 1, 1, 1}, {least, 1, 1, 1}, {1, 2, 3, 4, 0}, repeated(1, 200), repeated(0, 4), {least, least, 1, 1}} {
		units = append(units, func(p *api.Plan) { p.Units = l })
	}
	return kinds, ranges, rates, units
}

// P30.1, P30.2: each error, and its place before those that follow it.
func TestErrors(t *testing.T) {
	kinds, ranges, rates, units := wrongPlans()
	for _, method := range methods {
		wantChanged := func(e api.Errno, changes ...func(p *api.Plan)) {
			t.Helper()
			p := plan(method, 100, 10, 4)
			for _, change := range changes {
				change(&p)
			}
			wantError(t, p, e)
		}
		for _, kind := range kinds {
			wantChanged(api.ErrKind, kind)
			for _, other := range slices.Concat(ranges, rates, units) {
				wantChanged(api.ErrKind, other, kind)
			}
		}
		for _, wrong := range ranges {
			wantChanged(api.ErrRange, wrong)
			for _, other := range slices.Concat(rates, units) {
				wantChanged(api.ErrRange, other, wrong)
			}
		}
		arguments := map[int][]func(p *api.Plan){api.Declining: rates, api.Usage: units}
		for _, wrong := range arguments[method] {
			wantChanged(api.ErrArg, wrong)
		}
	}
}

// P30.2: numbers of periods that a plan does not have.
func TestAfterErrors(t *testing.T) {
	for _, method := range methods {
		for _, periods := range []int{1, 4, 200} {
			p := plan(method, 100, 10, periods)
			for _, n := range []int{-1, -periods, periods + 1, 201, most, least} {
				if book, e := deprec.After(p, n); book != 0 || e != api.ErrRange {
					t.Errorf("After(%v, %d) = %d, %d, want ErrRange", p, n, book, e)
				}
			}
			for n, wanted := range map[int]int{0: 100, periods: 10} {
				if book, e := deprec.After(p, n); book != wanted || e != api.OK {
					t.Errorf("After(%v, %d) = %d, %d, want %d", p, n, book, e, wanted)
				}
			}
		}
	}
}

// P30.1, P30.2: the units, and what lies behind them in memory, stay as they are, and every schedule is new.
func TestMemory(t *testing.T) {
	all := []int{1, 0, 3, 9, 9, 9}
	kept := slices.Clone(all)
	p := usage(110, 10, all[:3]...)
	p.Units = all[:3]
	for _, method := range methods {
		p.Method, p.F = method, api.Frac{N: 1, D: 2}
		l, _ := deprec.Schedule(p)
		again := slices.Clone(l)
		for i := range l {
			l[i] = -7
		}
		_ = append(l, 8)
		deprec.After(p, 2)
		if next, e := deprec.Schedule(p); !slices.Equal(next, again) || e != api.OK {
			t.Errorf("Schedule(%v) = %v, %d, after it was %v", p, next, e, again)
		}
		if !slices.Equal(all, kept) {
			t.Fatalf("the units %v became %v", kept, all)
		}
	}
}

// model computes the schedule of a plan period by period, with fractions of any size.
func model(p api.Plan) []int {
	weights := slices.Clone(p.Units)
	switch p.Method {
	case api.Straight:
		return modelStraight(p)
	case api.Declining:
		return modelDeclining(p)
	case api.Digits:
		for i := range weights {
			weights[i] = p.Periods - i
		}
	}
	l, _ := split.Shares(p.Cost-p.Salvage, weights...)
	return l
}

// modelStraight computes the differences of the rounded parts of the sum.
func modelStraight(p api.Plan) (l []int) {
	rounded := func(k int) int {
		// Twice the fraction tells on which side of a half it lies.
		twice := big.NewRat(2*int64(p.Cost-p.Salvage)*int64(k), int64(p.Periods))
		floor := (p.Cost - p.Salvage) * k / p.Periods
		switch twice.Cmp(big.NewRat(2*int64(floor)+1, 1)) {
		case -1:
			return floor
		case 0:
			return floor + floor%2
		}
		return floor + 1
	}
	for k := 1; k <= p.Periods; k++ {
		l = append(l, rounded(k)-rounded(k-1))
	}
	return l
}

// modelDeclining computes the larger of a part of the book value and an equal share of what is left, except in the last period.
func modelDeclining(p api.Plan) (l []int) {
	down := func(n, f, d int) int {
		product := new(big.Int).Mul(big.NewInt(int64(n)), big.NewInt(int64(f)))
		return int(product.Quo(product, big.NewInt(int64(d))).Int64())
	}
	book := p.Cost
	for left := p.Periods; left > 0; left-- {
		rest := book - p.Salvage
		amount := rest
		if left > 1 {
			part, equal := down(book, p.F.N, p.F.D), down(rest, 1, left)
			if equal > part {
				part = equal
			}
			if part < rest {
				amount = part
			}
		}
		l = append(l, amount)
		book -= amount
	}
	return l
}

// random returns a plan without errors.
func random(r *rand.Rand) api.Plan {
	cost := 1 + r.Intn([]int{5, 100, 10000, limit}[r.Intn(4)])
	p := api.Plan{Method: methods[r.Intn(4)], Cost: cost, Salvage: []int{0, r.Intn(cost + 1), cost}[r.Intn(3)], Periods: 1 + r.Intn([]int{4, 24, 200}[r.Intn(3)])}
	for {
		d := 2 + r.Intn([]int{5, 30, api.MaxPart - 1}[r.Intn(3)])
		p.F = api.Frac{N: 1 + r.Intn(d-1), D: d}
		if new(big.Int).GCD(nil, nil, big.NewInt(int64(p.F.N)), big.NewInt(int64(d))).Int64() == 1 {
			break
		}
	}
	highest := []int{1, 10, api.MaxQty}[r.Intn(3)]
	for range p.Periods {
		p.Units = append(p.Units, r.Intn(highest+1))
	}
	p.Units[r.Intn(p.Periods)] = highest
	return p
}

// P30.1, P30.2: random plans, compared with the model.
func TestRandomPlans(t *testing.T) {
	r := rand.New(rand.NewSource(30))
	for range 3000 {
		p := random(r)
		wanted := model(p)
		if l, e := deprec.Schedule(p); !slices.Equal(l, wanted) || e != api.OK {
			t.Fatalf("Schedule(%v) = %v, %d, want %v", p, l, e, wanted)
		}
		n := r.Intn(p.Periods + 1)
		if book, e := deprec.After(p, n); book != p.Cost-sum(wanted[:n]) || e != api.OK {
			t.Fatalf("After(%v, %d) = %d, %d, want %d", p, n, book, e, p.Cost-sum(wanted[:n]))
		}
	}
}

// P30.3: the amounts, their sum and the book values of all small plans and of random ones.
func TestSums(t *testing.T) {
	check := func(p api.Plan) {
		l, e := deprec.Schedule(p)
		if e != api.OK || len(l) != p.Periods || sum(l) != p.Cost-p.Salvage {
			t.Fatalf("Schedule(%v) = %v, %d, whose sum is %d", p, l, e, sum(l))
		}
		for n, amount := range l {
			if book, e := deprec.After(p, n+1); amount < 0 || book < p.Salvage || book > p.Cost || e != api.OK {
				t.Fatalf("Schedule(%v) has %d at %d; the book value is then %d, %d", p, amount, n, book, e)
			}
		}
	}
	for _, method := range methods {
		for cost := 1; cost <= 12; cost++ {
			for salvage := range cost + 1 {
				for periods := 1; periods <= 9; periods++ {
					check(plan(method, cost, salvage, periods))
				}
			}
		}
	}
	r := rand.New(rand.NewSource(31))
	for range 300 {
		check(random(r))
	}
}
