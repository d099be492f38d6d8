package aging_test

import (
	"math"
	"math/rand"
	"slices"
	"strings"
	"testing"

	"accounting/aging"
	"accounting/api"
)

const most, least, large = math.MaxInt, math.MinInt, api.MaxAmount

// noDays are integers that are not days.
var noDays = []int{-1, api.MaxDay + 1, -api.MaxDay, most, least}

// ten are as many limits as Of accepts.
var ten = []int{-40, -30, -1, 0, 1, 2, 30, 60, 90, 365}

// left returns what is left of an item of the party p in EUR.
func left(due, amount int) api.Left {
	return api.Left{Party: "p", Cur: "EUR", Due: due, Amount: amount}
}

// row returns the row of a party and currency.
func row(party, cur string, sums ...int) api.Aged {
	return api.Aged{Party: party, Cur: cur, Sums: sums}
}

// sameRow reports whether two rows are equal.
func sameRow(a, b api.Aged) bool {
	return a.Party == b.Party && a.Cur == b.Cur && slices.Equal(a.Sums, b.Sums)
}

// wantRows fails unless Of returns these rows, or if it changes its arguments or keeps them.
func wantRows(t *testing.T, l []api.Left, day int, limits []int, rows ...api.Aged) {
	t.Helper()
	elements, numbers := slices.Clone(l[:cap(l)]), slices.Clone(limits[:cap(limits)])
	got, e := aging.Of(l, day, limits...)
	if !slices.EqualFunc(got, rows, sameRow) || e != api.OK {
		t.Fatalf("Of(%v, %d, %v) = %v, %d, want %v", l, day, limits, got, e, rows)
	}
	for i, x := range got {
		clear(x.Sums)
		_ = append(x.Sums, 9)
		if i > 0 && slices.ContainsFunc(got[:i], func(y api.Aged) bool { return &y.Sums[0] == &x.Sums[0] }) {
			t.Fatal("two rows share their sums")
		}
	}
	if !slices.Equal(l[:cap(l)], elements) || !slices.Equal(limits[:cap(limits)], numbers) {
		t.Fatal("Of changed its arguments")
	}
}

// wantError fails unless Of returns this error and no rows.
func wantError(t *testing.T, l []api.Left, day int, limits []int, e api.Errno) {
	t.Helper()
	if rows, f := aging.Of(l, day, limits...); len(rows) != 0 || f != e {
		t.Errorf("Of of %d elements, %d, %v = %v, %d, want %d", len(l), day, limits, rows, f, e)
	}
}

// P27.1: the chapter's first example, ages at the limits, and limits in any order and number.
func TestBucket(t *testing.T) {
	eleven := append(slices.Clone(ten), 999)
	for _, c := range []struct {
		age    int
		limits []int
		n      int
	}{
		{30, []int{0, 30}, 1}, {31, []int{0, 30}, 2}, {0, []int{0, 30}, 0}, {1, []int{0, 30}, 1}, {-1, []int{0, 30}, 0}, {29, []int{0, 30}, 1},
		{5, nil, 0}, {0, nil, 0}, {least, nil, 0}, {most, nil, 0}, {most, []int{}, 0},
		{7, []int{7}, 0}, {8, []int{7}, 1}, {-8, []int{-7}, 0}, {-7, []int{-7}, 0}, {-6, []int{-7}, 1},
		{least, []int{least}, 0}, {least + 1, []int{least}, 1}, {most, []int{most}, 0}, {most, []int{most - 1}, 1}, {most, []int{least, most}, 1}, {least, []int{0, least}, 0},
		// The smallest index counts, even if the limits do not increase.
		{5, []int{9, 7, 5}, 0}, {5, []int{3, 9, 7, 5}, 1}, {8, []int{7, 9, 8}, 1}, {10, []int{9, 7, 5}, 3}, {5, []int{5, 5, 5}, 0}, {6, []int{5, 5, 6, 6}, 2},
		{999, eleven, 10}, {1000, eleven, 11}, {366, eleven, 10}, {365, eleven, 9}, {-41, eleven, 0}, {-39, eleven, 1},
	} {
		given := slices.Clone(c.limits)
		if n := aging.Bucket(c.age, c.limits...); n != c.n {
			t.Errorf("Bucket(%d, %v) = %d, want %d", c.age, c.limits, n, c.n)
		}
		if !slices.Equal(c.limits, given) {
			t.Errorf("Bucket changed %v to %v", given, c.limits)
		}
	}
}

// P27.2: the chapter's second example.
func TestOfExample(t *testing.T) {
	l := []api.Left{left(100, 40), left(160, 7), {Party: "a", Cur: "USD", Due: 200, Amount: -5}}
	wantRows(t, l, 170, []int{0, 30}, row("a", "USD", -5, 0, 0), row("p", "EUR", 0, 7, 40))
	wantRows(t, l, 170, nil, row("a", "USD", -5), row("p", "EUR", 47))
}

// P27.2: the order of the rows, and rows whose sums are 0.
func TestRows(t *testing.T) {
	wantRows(t, nil, 0, nil)
	wantRows(t, nil, api.MaxDay, ten)
	wantRows(t, []api.Left{}, 5, []int{1})
	long := strings.Repeat("z", 12)
	var l []api.Left
	for i, party := range []string{"b", "a", "B", "10", "9", "_", "ab", long} {
		for _, cur := range []string{"USD", "EUR", "AAA"} {
			l = append(l, api.Left{Party: party, Cur: cur, Due: 5, Amount: i + 1})
		}
	}
	var wanted []api.Aged
	for _, c := range []struct {
		party string
		sum   int
	}{{"10", 4}, {"9", 5}, {"B", 3}, {"_", 6}, {"a", 2}, {"ab", 7}, {"b", 1}, {long, 8}} {
		for _, cur := range []string{"AAA", "EUR", "USD"} {
			wanted = append(wanted, row(c.party, cur, c.sum))
		}
	}
	wantRows(t, l, 5, nil, wanted...)
	slices.Reverse(l)
	wantRows(t, l, 5, nil, wanted...)
	// A party and a currency do not run together.
	wantRows(t, []api.Left{{Party: "pE", Cur: "URA", Amount: 1}, {Party: "p", Cur: "EUR", Amount: 2}}, 0, nil, row("p", "EUR", 2), row("pE", "URA", 1))
	wantRows(t, []api.Left{left(5, 3), left(5, -3)}, 5, []int{0}, row("p", "EUR", 0, 0))
	wantRows(t, []api.Left{left(5, 0)}, 5, []int{0}, row("p", "EUR", 0, 0))
	wantRows(t, []api.Left{left(4, 3), left(5, -3), left(6, 2)}, 5, []int{-1, 0}, row("p", "EUR", 2, -3, 3))
}

// P27.2: the limits of days, limits, amounts and elements.
func TestOfLimits(t *testing.T) {
	wantRows(t, []api.Left{left(api.MaxDay, 1), left(0, 2)}, 0, []int{-api.MaxDay - 1, -api.MaxDay, -1}, row("p", "EUR", 0, 1, 0, 2))
	wantRows(t, []api.Left{left(api.MaxDay, 1), left(0, 2)}, api.MaxDay, []int{0, api.MaxDay - 1, api.MaxDay}, row("p", "EUR", 1, 0, 2, 0))
	wantRows(t, []api.Left{left(5, 7)}, 5, []int{least, most}, row("p", "EUR", 0, 7, 0))
	wantRows(t, []api.Left{left(5, 7)}, 5, []int{least}, row("p", "EUR", 0, 7))
	var l []api.Left
	for i, n := range ten {
		l = append(l, left(500-n, 1<<i))
	}
	l = append(l, left(500-366, 1<<10))
	wantRows(t, l, 500, ten, row("p", "EUR", 1, 2, 4, 8, 16, 32, 64, 128, 256, 512, 1024))
	for _, amount := range []int{large, -large} {
		wantRows(t, slices.Repeat([]api.Left{left(5, amount)}, api.MaxSteps), 5, []int{-1}, row("p", "EUR", 0, api.MaxSteps*amount))
	}
}

// P27.2: the errors, in their order; each step takes away the first error that is left.
func TestOfErrors(t *testing.T) {
	bad := []api.Left{{Due: -1, Amount: most}}
	eleven := slices.Repeat([]int{3}, 11)
	for _, day := range noDays {
		wantError(t, bad, day, eleven, api.ErrDate)
		wantError(t, nil, day, nil, api.ErrDate)
		wantError(t, make([]api.Left, api.MaxSteps+1), day, nil, api.ErrDate)
	}
	for _, day := range []int{0, 5, api.MaxDay} {
		wantError(t, bad, day, eleven, api.ErrMany)
		wantError(t, nil, day, append(slices.Clone(ten), 999), api.ErrMany)
		for _, limits := range [][]int{{3, 3}, {4, 3}, {1, 2, 2}, {1, 3, 2}, {2, 1, 3}, {most, least}, {0, 0, 1}, slices.Repeat([]int{3}, 10), {-40, -30, -1, 0, 1, 2, 30, 60, 90, 90}} {
			wantError(t, bad, day, limits, api.ErrOrder)
			wantError(t, nil, day, limits, api.ErrOrder)
			wantError(t, make([]api.Left, api.MaxSteps+1), day, limits, api.ErrOrder)
		}
		wantError(t, bad, day, ten, api.ErrName)
		wantError(t, bad, day, nil, api.ErrName)
	}
}

// P27.2: the errors of elements, of which the first that has one counts.
func TestElementErrors(t *testing.T) {
	type changes = []func(x *api.Left)
	var days, amounts changes
	for _, n := range noDays {
		days = append(days, func(x *api.Left) { x.Due = n })
	}
	for _, n := range []int{large + 1, -large - 1, most, least} {
		amounts = append(amounts, func(x *api.Left) { x.Amount = n })
	}
	l := []struct {
		e api.Errno
		changes
	}{
		{api.ErrName, changes{func(x *api.Left) { x.Party = "" }, func(x *api.Left) { x.Party = "p q" }, func(x *api.Left) { x.Party = "é" }, func(x *api.Left) { x.Party = strings.Repeat("p", 13) }}},
		{api.ErrCur, changes{func(x *api.Left) { x.Cur = "" }, func(x *api.Left) { x.Cur = "eur" }, func(x *api.Left) { x.Cur = "EU" }, func(x *api.Left) { x.Cur = "EURO" }, func(x *api.Left) { x.Cur = "EU1" }}},
		{api.ErrDate, days}, {api.ErrOver, amounts},
	}
	full := slices.Repeat([]api.Left{left(5, 1)}, api.MaxSteps)
	for n, c := range l {
		for _, change := range c.changes {
			x := left(5, 1)
			change(&x)
			wantError(t, []api.Left{x}, 5, ten, c.e)
			for _, other := range l {
				y := left(5, 1)
				other.changes[0](&y)
				wantError(t, []api.Left{left(5, 1), x, y}, 5, ten, c.e)
			}
			for _, later := range l[n+1:] {
				for _, worse := range later.changes {
					y := x
					worse(&y)
					wantError(t, []api.Left{left(5, 1), y}, 5, ten, c.e)
				}
			}
			// The number of elements is checked last, even if the last one has an error.
			wantError(t, append(full, x), 5, nil, c.e)
		}
	}
	wantError(t, append(full, left(5, 1)), 5, nil, api.ErrMany)
	wantError(t, append(full, full...), 5, ten, api.ErrMany)
}

// random returns elements of a few parties and currencies.
func random(r *rand.Rand) (l []api.Left) {
	size := []int{3, 1000, large}[r.Intn(3)]
	for range r.Intn(40) {
		l = append(l, api.Left{Party: []string{"p", "q", "P"}[r.Intn(3)], Cur: []string{"EUR", "USD"}[r.Intn(2)], Due: r.Intn(200), Amount: r.Intn(2*size+1) - size})
	}
	return l
}

// limits returns up to most limits that strictly increase.
func limits(r *rand.Rand, most int) (l []int) {
	for range r.Intn(most + 1) {
		l = append(l, r.Intn(400)-200)
	}
	slices.Sort(l)
	return slices.Compact(l)
}

// model computes the rows bucket by bucket: bucket i has the ages that exceed the limit before it, but not its own.
func model(l []api.Left, day int, limits []int) (rows []api.Aged) {
	for _, party := range []string{"P", "p", "q"} {
		for _, cur := range []string{"EUR", "USD"} {
			x, occurs := row(party, cur), false
			for i := range len(limits) + 1 {
				sum := 0
				for _, y := range l {
					if y.Party != party || y.Cur != cur {
						continue
					}
					occurs = true
					if age := day - y.Due; (i == 0 || age > limits[i-1]) && (i == len(limits) || age <= limits[i]) {
						sum += y.Amount
					}
				}
				x.Sums = append(x.Sums, sum)
			}
			if occurs {
				rows = append(rows, x)
			}
		}
	}
	return rows
}

// P27.1, P27.2: random elements, compared with the model.
func TestRandomElements(t *testing.T) {
	r := rand.New(rand.NewSource(27))
	for range 3000 {
		l, day, numbers := random(r), r.Intn(200), limits(r, 10)
		wantRows(t, l, day, numbers, model(l, day, numbers)...)
	}
}

// P27.3: the sums of a row add up, and a limit that is inserted divides one bucket into two.
func TestSums(t *testing.T) {
	r := rand.New(rand.NewSource(28))
	for range 3000 {
		l, day, numbers := random(r), r.Intn(200), limits(r, 9)
		whole, _ := aging.Of(l, day)
		rows, e := aging.Of(l, day, numbers...)
		if e != api.OK || len(rows) != len(whole) {
			t.Fatalf("Of returns %v and %v, %d", whole, rows, e)
		}
		for i, x := range rows {
			sum, amounts := 0, 0
			for _, n := range x.Sums {
				sum += n
			}
			for _, y := range l {
				if y.Party == x.Party && y.Cur == x.Cur {
					amounts += y.Amount
				}
			}
			if len(x.Sums) != len(numbers)+1 || sum != amounts || !sameRow(whole[i], row(x.Party, x.Cur, amounts)) {
				t.Fatalf("the sums of %v do not add up to %d", x, amounts)
			}
		}
		limit := r.Intn(400) - 200
		at, exists := slices.BinarySearch(numbers, limit)
		if exists {
			continue
		}
		divided, e := aging.Of(l, day, slices.Insert(slices.Clone(numbers), at, limit)...)
		if e != api.OK || len(divided) != len(rows) {
			t.Fatalf("Of returns %v, %d", divided, e)
		}
		for i, x := range divided {
			joined := slices.Delete(slices.Clone(x.Sums), at+1, at+2)
			joined[at] += x.Sums[at+1]
			if len(x.Sums) != len(numbers)+2 || !sameRow(rows[i], row(x.Party, x.Cur, joined...)) {
				t.Fatalf("a limit of %d divides %v into %v", limit, rows[i], x)
			}
		}
	}
}
