package assets_test

import (
	"math"
	"math/rand"
	"reflect"
	"slices"
	"strconv"
	"strings"
	"testing"

	"accounting/api"
	"accounting/assets"
	"accounting/deprec"
	"accounting/entry"
	"accounting/fiscal"
)

const most, least, limit = math.MaxInt, math.MinInt, api.MaxAmount

// newYear is 1 January 2024, and leapDay 29 February 2024.
const newYear, leapDay = 45290, 45349

// january is the calendar of the chapter's examples, and april another one.
var january, april = api.Calendar{First: 1}, api.Calendar{First: 4}

// noCodes are texts that are not codes, noCurs texts that are no currency codes, and noDays integers that are not days.
var (
	noCodes = []string{"", " ", "a b", "a-b", "abcdefghijklm", "\xff", "ä", "a\n", strings.Repeat("a", 500)}
	noCurs  = []string{"", "EU", "EURO", "eur", "E1R", "EU ", "ÉUR"}
	noDays  = []int{-1, api.MaxDay + 1, -api.MaxDay, most, least}
)

// period returns a period.
func period(year, no int) api.Period {
	return api.Period{Year: year, No: no}
}

// noMonths are periods that do not exist in a year that begins with January, or have the number 13.
func noMonths() []api.Period {
	return []api.Period{{}, period(2024, 0), period(2024, 13), period(2024, 14), period(2024, -1), period(2024, most), period(2024, least), period(1899, 12), period(2200, 1), period(1899, 13), period(2199, 13), period(0, 1), period(-2024, 1), period(most, 1), period(least, 1), period(most, most), period(least, least)}
}

// asset returns an asset that loses equal amounts from period 1 of 2024 on.
func asset(id string, cost, salvage, periods int) api.FixedAsset {
	return api.FixedAsset{Id: id, Plan: api.Plan{Method: api.Straight, Cost: cost, Salvage: salvage, Periods: periods}, Start: period(2024, 1), Cost: "15", Accum: "14", Expense: "50"}
}

// car returns the asset of the chapter's examples.
func car() api.FixedAsset {
	return asset("car", 1200, 0, 12)
}

// from returns an asset that starts with another period.
func from(start api.Period, a api.FixedAsset) api.FixedAsset {
	a.Start = start
	return a
}

// on returns an asset with other accounts for its depreciation.
func on(expense, accum string, a api.FixedAsset) api.FixedAsset {
	a.Expense, a.Accum = expense, accum
	return a
}

// usage returns an asset that loses its value by these units.
func usage(id string, cost int, units ...int) api.FixedAsset {
	a := asset(id, cost, 0, len(units))
	a.Plan.Method, a.Plan.Units = api.Usage, units
	return a
}

// build returns a register of the entity a in EUR with these assets.
func build(t *testing.T, c api.Calendar, l ...api.FixedAsset) *assets.Register {
	t.Helper()
	r, e := assets.New("a", "EUR", c)
	if r == nil || e != api.OK {
		t.Fatalf("New = %v, %d", r, e)
	}
	for _, a := range l {
		add(t, r, a, api.OK)
	}
	return r
}

// line returns a line in EUR.
func line(account string, amount int) api.Line {
	return api.Line{Account: account, Cur: "EUR", Amount: amount, Base: amount}
}

// entryOf returns an entry of the entity a by u.
func entryOf(book, value int, ref string, l ...api.Line) api.Entry {
	return api.Entry{Entity: "a", Book: book, Value: value, Kind: api.Normal, Ref: ref, By: "u", Lines: l}
}

// add fails unless Add returns this error.
func add(t *testing.T, r *assets.Register, a api.FixedAsset, wanted api.Errno) {
	t.Helper()
	if e := r.Add(a); e != wanted {
		t.Fatalf("Add(%v) = %d, want %d", a, e, wanted)
	}
}

// run fails unless Run by u on the last day of the month returns an entry with these lines, or none if there are none.
func run(t *testing.T, r *assets.Register, c api.Calendar, p api.Period, l ...api.Line) {
	t.Helper()
	_, day, _ := fiscal.Span(c, p)
	wanted := api.Entry{}
	if len(l) > 0 {
		wanted = entryOf(day, day, "", l...)
	}
	if x, ok, e := r.Run(p, day, "u"); !entry.Same(x, wanted) || ok != (len(l) > 0) || e != api.OK {
		t.Fatalf("Run(%v) = %v, %v, %d, want %v", p, x, ok, e, wanted)
	}
}

// noRun fails unless Run returns this error and nothing else.
func noRun(t *testing.T, r *assets.Register, p api.Period, book int, by string, wanted api.Errno) {
	t.Helper()
	if x, ok, e := r.Run(p, book, by); !reflect.DeepEqual(x, api.Entry{}) || ok || e != wanted {
		t.Fatalf("Run(%v, %d, %q) = %v, %v, %d, want %d", p, book, by, x, ok, e, wanted)
	}
}

// dispose fails unless Dispose by u on New Year's Day returns an entry with these lines.
func dispose(t *testing.T, r *assets.Register, id string, proceeds int, l ...api.Line) {
	t.Helper()
	wanted := entryOf(newYear+1, newYear, id, l...)
	if x, e := r.Dispose(id, proceeds, newYear+1, newYear, "10", "41", "u"); !entry.Same(x, wanted) || e != api.OK {
		t.Fatalf("Dispose(%q, %d) = %v, %d, want %v", id, proceeds, x, e, wanted)
	}
}

// disposal holds the arguments of Dispose.
type disposal struct {
	id                    string
	proceeds, book, value int
	bank, gain, by        string
}

// noDisposal fails unless Dispose returns this error and nothing else.
func noDisposal(t *testing.T, r *assets.Register, d disposal, wanted api.Errno) {
	t.Helper()
	if x, e := r.Dispose(d.id, d.proceeds, d.book, d.value, d.bank, d.gain, d.by); !reflect.DeepEqual(x, api.Entry{}) || e != wanted {
		t.Fatalf("Dispose(%v) = %v, %d, want %d", d, x, e, wanted)
	}
}

// wantBook fails unless the asset has this cost and this depreciation.
func wantBook(t *testing.T, r *assets.Register, id string, wantedCost, wantedAccum int) {
	t.Helper()
	if cost, accum, ok := r.Book(id); cost != wantedCost || accum != wantedAccum || !ok {
		t.Fatalf("Book(%q) = %d, %d, %v, want %d, %d", id, cost, accum, ok, wantedCost, wantedAccum)
	}
}

// wantNone fails unless the register has no asset with this id.
func wantNone(t *testing.T, r *assets.Register, id string) {
	t.Helper()
	if a, ok := r.Asset(id); !reflect.DeepEqual(a, api.FixedAsset{}) || ok {
		t.Fatalf("Asset(%q) = %v, %v", id, a, ok)
	}
	if cost, accum, ok := r.Book(id); cost != 0 || accum != 0 || ok {
		t.Fatalf("Book(%q) = %d, %d, %v", id, cost, accum, ok)
	}
}

// wantTotals fails unless the register has this number of assets and these sums.
func wantTotals(t *testing.T, r *assets.Register, n, wantedCost, wantedAccum int) {
	t.Helper()
	if cost, accum := r.Totals(); cost != wantedCost || accum != wantedAccum || r.Len() != n {
		t.Fatalf("Totals = %d, %d of %d assets, want %d, %d of %d", cost, accum, r.Len(), wantedCost, wantedAccum, n)
	}
}

// P31.1 to P31.4: the chapter's examples.
func TestExamples(t *testing.T) {
	r := build(t, january, car())
	wanted := entryOf(45400, leapDay, "", line("50", 200), line("14", -200))
	if x, ok, e := r.Run(period(2024, 2), 45400, "u"); !entry.Same(x, wanted) || !ok || e != api.OK {
		t.Errorf("Run = %v, %v, %d, want %v", x, ok, e, wanted)
	}
	wantBook(t, r, "car", 1200, 200)
	noRun(t, r, period(2024, 2), 45400, "u", api.ErrOrder)
	dispose(t, r, "car", 900, line("14", 200), line("10", 900), line("15", -1200), line("41", 100))
	wantNone(t, r, "car")
	noRun(t, r, period(2024, 2), 45400, "u", api.ErrOrder)
}

// P31.1: an empty register, and the errors in their order.
func TestNew(t *testing.T) {
	want := func(entity, cur string, c api.Calendar, wanted api.Errno) {
		t.Helper()
		r, e := assets.New(entity, cur, c)
		if e != wanted || (r != nil) != (e == api.OK) {
			t.Errorf("New(%q, %q, %v) = %v, %d, want %d", entity, cur, c, r, e, wanted)
		}
		if e == api.OK {
			wantTotals(t, r, 0, 0, 0)
			wantNone(t, r, "car")
		}
	}
	for first := 1; first <= 12; first++ {
		want("a", "EUR", api.Calendar{First: first}, api.OK)
	}
	want("abcdefghijkl", "ZZZ", january, api.OK)
	want("_", "AAA", april, api.OK)
	wrong := []api.Calendar{{}, {First: -1}, {First: 13}, {First: most}, {First: least}}
	for _, entity := range noCodes {
		want(entity, "EUR", january, api.ErrName)
		for _, cur := range noCurs {
			want(entity, cur, january, api.ErrName)
			want(entity, cur, wrong[0], api.ErrName)
		}
	}
	for _, cur := range noCurs {
		want("a", cur, january, api.ErrCur)
		for _, c := range wrong {
			want("a", cur, c, api.ErrCur)
			want("a", "EUR", c, api.ErrArg)
		}
	}
}

// wrong holds an error and changes of an argument that lead to it.
type wrong[T any] struct {
	e       api.Errno
	changes []func(x *T)
}

// inOrder calls want for every change of the right argument, alone and together with every change for an error that follows.
func inOrder[T any](right T, l []wrong[T], want func(x T, e api.Errno)) {
	for n, c := range l {
		for _, change := range c.changes {
			x := right
			change(&x)
			want(x, c.e)
			for _, later := range l[n+1:] {
				for _, worse := range later.changes {
					x := right
					worse(&x)
					change(&x)
					want(x, c.e)
				}
			}
		}
	}
}

// wrongAssets are changes of an asset that lead to an error, in the order of the errors. Those of plans come in the order of deprec's Check.
func wrongAssets() []wrong[api.FixedAsset] {
	type changes = []func(a *api.FixedAsset)
	var names, months changes
	for _, s := range noCodes {
		names = append(names, func(a *api.FixedAsset) { a.Id = s }, func(a *api.FixedAsset) { a.Cost = s }, func(a *api.FixedAsset) { a.Accum = s }, func(a *api.FixedAsset) { a.Expense = s })
	}
	for _, p := range noMonths() {
		months = append(months, func(a *api.FixedAsset) { a.Start = p })
	}
	return []wrong[api.FixedAsset]{
		{api.ErrName, names},
		{api.ErrTwice, changes{func(a *api.FixedAsset) { a.Id = "car" }, func(a *api.FixedAsset) { a.Id = "gone" }}},
		{api.ErrKind, changes{func(a *api.FixedAsset) { a.Plan.Method = 0 }, func(a *api.FixedAsset) { a.Plan.Method = 5 }}},
		{api.ErrRange, changes{func(a *api.FixedAsset) { a.Plan.Cost = 0 }, func(a *api.FixedAsset) { a.Plan.Cost = limit + 1 }, func(a *api.FixedAsset) { a.Plan.Salvage = -1 }, func(a *api.FixedAsset) { a.Plan.Periods = 201 }}},
		{api.ErrArg, changes{func(a *api.FixedAsset) { a.Plan.Units = nil }, func(a *api.FixedAsset) { a.Plan.Units = []int{0, 0, 0} }, func(a *api.FixedAsset) { a.Plan.Units = []int{1, 1, -1} }}},
		{api.ErrPeriod, months},
	}
}

// P31.1: each error of Add, and its place before all that follow it.
func TestAddErrors(t *testing.T) {
	r := build(t, january, car(), asset("gone", 5, 0, 1))
	dispose(t, r, "gone", 5, line("10", 5), line("15", -5))
	fresh := usage("new", 60, 1, 2, 3)
	check := func() {
		t.Helper()
		inOrder(fresh, wrongAssets(), func(a api.FixedAsset, e api.Errno) {
			t.Helper()
			add(t, r, a, e)
		})
	}
	check()
	wantTotals(t, r, 1, 1200, 0)
	wantNone(t, r, "new")
	// The number of assets comes last, and those that have been disposed of count.
	for n := range api.MaxParts - 2 {
		add(t, r, asset("x"+strconv.Itoa(n), 1, 0, 1), api.OK)
	}
	add(t, r, fresh, api.ErrMany)
	check()
	dispose(t, r, "car", 0, line("15", -1200), line("41", 1200))
	add(t, r, fresh, api.ErrMany)
	wantTotals(t, r, api.MaxParts-2, api.MaxParts-2, 0)
}

// P31.1: assets at the limits, and registers that know nothing of each other.
func TestAdd(t *testing.T) {
	long := strings.Repeat("z", 12)
	for _, c := range []struct {
		calendar    api.Calendar
		first, last api.Period
	}{{january, period(1900, 1), period(2199, 12)}, {april, period(1900, 1), period(2198, 12)}, {api.Calendar{First: 12}, period(1900, 1), period(2198, 12)}} {
		r, other := build(t, c.calendar), build(t, c.calendar)
		// All accounts, and the ids of other assets, can be the same.
		for _, a := range []api.FixedAsset{
			from(c.first, asset("a", limit, limit, 200)), from(c.last, asset("A", 1, 0, 1)), {Id: long, Plan: car().Plan, Start: period(2024, 12), Cost: long, Accum: "_", Expense: "9"}, {Id: "z", Plan: car().Plan, Start: period(2024, 1), Cost: "z", Accum: "z", Expense: "z"},
		} {
			add(t, r, a, api.OK)
			if got, ok := r.Asset(a.Id); !reflect.DeepEqual(got, a) || !ok {
				t.Errorf("Asset(%q) = %v, %v, want %v", a.Id, got, ok, a)
			}
			wantBook(t, r, a.Id, a.Plan.Cost, 0)
		}
		for _, p := range []api.Period{period(c.last.Year+1, 1), period(c.last.Year, 13), period(1899, 12)} {
			add(t, r, from(p, asset("late", 1, 0, 1)), api.ErrPeriod)
		}
		wantTotals(t, r, 4, limit+1+2400, 0)
		wantTotals(t, other, 0, 0, 0)
	}
}

// P31.1 to P31.4: a nil register.
func TestNil(t *testing.T) {
	var r *assets.Register
	add(t, r, car(), api.ErrNone)
	add(t, r, api.FixedAsset{}, api.ErrNone)
	wantTotals(t, r, 0, 0, 0)
	wantNone(t, r, "car")
	wantNone(t, r, "")
	noRun(t, r, period(2024, 1), newYear, "u", api.ErrNone)
	noRun(t, r, api.Period{}, -1, "", api.ErrNone)
	noDisposal(t, r, disposal{"car", 900, newYear, newYear, "10", "41", "u"}, api.ErrNone)
	noDisposal(t, r, disposal{"", -1, -1, -1, "", "", ""}, api.ErrNone)
}

// P31.2: what is there, what is not there yet, and what is not there any more.
func TestQueries(t *testing.T) {
	r := build(t, january, car(), usage("van", 100, 1, 0, 3))
	wantTotals(t, r, 2, 1300, 0)
	for _, id := range append([]string{"Car", "ca", "cars", "15"}, noCodes...) {
		wantNone(t, r, id)
	}
	run(t, r, january, period(2024, 1), line("50", 125), line("14", -125))
	wantBook(t, r, "car", 1200, 100)
	wantBook(t, r, "van", 100, 25)
	wantTotals(t, r, 2, 1300, 125)
	dispose(t, r, "van", 80, line("14", 25), line("10", 80), line("15", -100), line("41", -5))
	wantNone(t, r, "van")
	wantBook(t, r, "car", 1200, 100)
	wantTotals(t, r, 1, 1200, 100)
	run(t, r, january, period(2024, 2), line("50", 100), line("14", -100))
	wantTotals(t, r, 1, 1200, 200)
}

// P31.3: the value day is the last one of the month, in every calendar and every kind of year.
func TestValueDays(t *testing.T) {
	for first := 1; first <= 12; first++ {
		c := api.Calendar{First: first}
		for _, year := range []int{1901, 2023, 2024, 2100} {
			for no := 1; no <= 12; no++ {
				p := period(year, no)
				run(t, build(t, c, from(p, car())), c, p, line("50", 100), line("14", -100))
			}
		}
	}
}

// P31.3: months follow each other across the end of a year, and each of them has one element of a schedule.
func TestMonths(t *testing.T) {
	for _, c := range []api.Calendar{january, april, {First: 12}} {
		r := build(t, c, from(period(2023, 11), usage("a", 36, 1, 2, 3, 4, 5, 6, 7, 8)))
		for _, n := range []struct{ year, no, amount int }{{2023, 11, 1}, {2023, 12, 2}, {2024, 1, 3}, {2024, 2, 4}} {
			run(t, r, c, period(n.year, n.no), line("50", n.amount), line("14", -n.amount))
		}
		for _, p := range []api.Period{period(2023, 12), period(2024, 1), period(2024, 2), period(2024, 4), period(2024, 12), period(2025, 1), period(2025, 3), period(2023, 3), period(1900, 1), period(2198, 12)} {
			noRun(t, r, p, newYear, "u", api.ErrOrder)
		}
		run(t, r, c, period(2024, 3), line("50", 5), line("14", -5))
		wantBook(t, r, "a", 36, 15)
	}
	// In a year with an asset that starts in period 12 only.
	r := build(t, january, from(period(2024, 12), usage("a", 3, 1, 2)))
	run(t, r, january, period(2024, 11))
	wantBook(t, r, "a", 3, 0)
	noRun(t, r, period(2025, 1), newYear, "u", api.ErrOrder)
	run(t, r, january, period(2024, 12), line("50", 1), line("14", -1))
	run(t, r, january, period(2025, 1), line("50", 2), line("14", -2))
	run(t, r, january, period(2025, 2))
	wantBook(t, r, "a", 3, 3)
}

// P31.3: the first run, and assets that are added behind the last run month, take all months up to the month of the run.
func TestCatchUp(t *testing.T) {
	for _, c := range []struct {
		start  api.Period
		amount int
	}{
		{period(2024, 3), 1}, {period(2024, 2), 3}, {period(2024, 1), 6}, {period(2023, 12), 10}, {period(2023, 9), 28}, {period(2023, 8), 36}, {period(2023, 7), 36}, {period(2023, 3), 36}, {period(1900, 1), 36}, {period(2024, 4), 0}, {period(2025, 1), 0}, {period(2025, 3), 0}, {period(2199, 12), 0},
	} {
		a := from(c.start, usage("a", 36, 1, 2, 3, 4, 5, 6, 7, 8))
		var l []api.Line
		if c.amount > 0 {
			l = []api.Line{line("50", c.amount), line("14", -c.amount)}
		}
		// The asset is there before the first run.
		r := build(t, january, a)
		run(t, r, january, period(2024, 3), l...)
		wantBook(t, r, "a", 36, c.amount)
		// The asset is added behind a run without lines.
		r = build(t, january)
		run(t, r, january, period(2024, 2))
		add(t, r, a, api.OK)
		wantBook(t, r, "a", 36, 0)
		noRun(t, r, period(2024, 2), newYear, "u", api.ErrOrder)
		run(t, r, january, period(2024, 3), l...)
		wantBook(t, r, "a", 36, c.amount)
	}
}

// P31.3: the lines come by increasing Id and are merged, and amounts of 0 have no part in their order.
func TestLines(t *testing.T) {
	r := build(t, january,
		on("52", "14", usage("z", 3, 3)), on("51", "14", usage("b", 5, 2, 3)), on("52", "16", usage("a", 4, 0, 4)), on("50", "14", usage("B", 7, 7)), on("50", "16", usage("a1", 8, 1, 0, 7)),
	)
	run(t, r, january, period(2024, 1), line("50", 8), line("14", -12), line("16", -1), line("51", 2), line("52", 3))
	run(t, r, january, period(2024, 2), line("52", 4), line("16", -4), line("51", 3), line("14", -3))
	run(t, r, january, period(2024, 3), line("50", 7), line("16", -7))
	wantTotals(t, r, 5, 27, 27)
	run(t, r, january, period(2024, 4))
}

// P31.3: a run without lines returns no entry, so that nothing of it is checked, but it takes what there is to take and is the last run.
func TestNoLines(t *testing.T) {
	same := on("14", "14", usage("same", 9, 4, 5))
	for _, l := range [][]api.FixedAsset{nil, {asset("a", 7, 7, 3)}, {from(period(2024, 2), asset("a", 8, 5, 3))}, {same}, {on("60", "61", asset("a", 3, 0, 1)), on("61", "60", asset("b", 3, 0, 1))}} {
		r := build(t, january, l...)
		if x, ok, e := r.Run(period(2024, 1), -1, ""); !reflect.DeepEqual(x, api.Entry{}) || ok || e != api.OK {
			t.Errorf("Run of %v = %v, %v, %d", l, x, ok, e)
		}
		noRun(t, r, period(2024, 1), newYear, "u", api.ErrOrder)
		noRun(t, r, period(2024, 3), newYear, "u", api.ErrOrder)
	}
	// The two lines of an asset can cancel out.
	r := build(t, january, same)
	run(t, r, january, period(2024, 1))
	wantBook(t, r, "same", 9, 4)
	run(t, r, january, period(2024, 2))
	wantBook(t, r, "same", 9, 9)
	// Those of other assets remain.
	r = build(t, january, same, asset("x", 3, 0, 1))
	run(t, r, january, period(2024, 1), line("14", -3), line("50", 3))
}

// P31.3: the errors of periods come first, then that of the order, then those of the entry. Nothing is taken.
func TestRunErrors(t *testing.T) {
	large := []api.FixedAsset{on("50", "1", asset("x", limit, 0, 1)), on("50", "2", asset("y", 1, 0, 1))}
	for _, started := range []bool{false, true} {
		r := build(t, january)
		if started {
			run(t, r, january, period(2023, 12))
		}
		for _, a := range append(large, car()) {
			add(t, r, a, api.OK)
		}
		for _, by := range []string{"", "u"} {
			for _, p := range noMonths() {
				noRun(t, r, p, -1, by, api.ErrPeriod)
			}
			for _, p := range []api.Period{period(2023, 12), period(2024, 2), period(2025, 1)} {
				if started {
					noRun(t, r, p, -1, by, api.ErrOrder)
				}
			}
			// The sum of an account is too large.
			noRun(t, r, period(2024, 1), -1, by, api.ErrOver)
		}
		wantTotals(t, r, 3, limit+1+1200, 0)
		dispose(t, r, "x", limit, line("10", limit), line("15", -limit))
		for _, day := range noDays {
			for _, by := range noCodes {
				noRun(t, r, period(2024, 1), day, by, api.ErrName)
			}
			noRun(t, r, period(2024, 1), day, "u", api.ErrDate)
		}
		wantTotals(t, r, 2, 1201, 0)
		run(t, r, january, period(2024, 1), line("50", 101), line("14", -100), line("2", -1))
		wantTotals(t, r, 2, 1201, 101)
	}
}

// P31.3: sums at the limit, and the errors of the credits.
func TestLargeSums(t *testing.T) {
	r := build(t, january, on("50", "1", asset("a", limit-1, 0, 1)), on("50", "2", asset("b", 1, 0, 1)))
	run(t, r, january, period(2024, 1), line("50", limit), line("1", 1-limit), line("2", -1))
	r = build(t, january, on("50", "1", asset("a", limit, 0, 1)), on("51", "1", asset("b", 1, 0, 1)))
	noRun(t, r, period(2024, 1), newYear, "u", api.ErrOver)
	// What is too large for one account is taken when the other asset is gone.
	dispose(t, r, "b", 0, line("15", -1), line("41", 1))
	run(t, r, january, period(2024, 1), line("50", limit), line("1", -limit))
	wantBook(t, r, "a", limit, limit)
}

// P31.3: as many lines as an entry can have, and one asset more.
func TestManyLines(t *testing.T) {
	var l []api.FixedAsset
	var lines []api.Line
	for n := 100; n < 150; n++ {
		expense, accum := "e"+strconv.Itoa(n), "c"+strconv.Itoa(n)
		l = append(l, on(expense, accum, asset(strconv.Itoa(n), 2, 0, 2)))
		lines = append(lines, line(expense, 1), line(accum, -1))
	}
	slices.Reverse(l)
	r := build(t, january, l...)
	run(t, r, january, period(2024, 1), lines...)
	add(t, r, on("e", "c100", from(period(2024, 2), asset("x", 1, 0, 1))), api.OK)
	noRun(t, r, period(2024, 2), newYear, "u", api.ErrMany)
	noRun(t, r, period(2024, 2), -1, "u", api.ErrDate)
	wantTotals(t, r, 51, 101, 50)
	noRun(t, r, period(2024, 1), newYear, "u", api.ErrOrder)
	dispose(t, r, "x", 1, line("10", 1), line("15", -1))
	run(t, r, january, period(2024, 2), lines...)
	wantTotals(t, r, 50, 100, 100)
}

// P31.3: as many assets as there can be, with the same accounts.
func TestManyAssets(t *testing.T) {
	r := build(t, january)
	for n := range api.MaxParts {
		add(t, r, asset("x"+strconv.Itoa(n), limit/api.MaxParts, 0, 200), api.OK)
	}
	for n := range 12 {
		run(t, r, january, period(2024, n+1), line("50", limit/200), line("14", -limit/200))
	}
	wantTotals(t, r, api.MaxParts, limit, 12*(limit/200))
}

// P31.3: the last month of all, which nothing follows.
func TestLastMonth(t *testing.T) {
	for _, c := range []struct {
		calendar api.Calendar
		year     int
	}{{january, 2199}, {april, 2198}} {
		last := period(c.year, 12)
		r := build(t, c.calendar, from(last, asset("a", 10, 0, 5)))
		run(t, r, c.calendar, last, line("50", 2), line("14", -2))
		noRun(t, r, last, newYear, "u", api.ErrOrder)
		noRun(t, r, period(1900, 1), newYear, "u", api.ErrOrder)
		noRun(t, r, period(c.year, 13), newYear, "u", api.ErrPeriod)
		noRun(t, r, period(c.year+1, 1), newYear, "u", api.ErrPeriod)
		wantBook(t, r, "a", 10, 2)
	}
	r := build(t, april, from(period(1900, 1), asset("a", 10, 0, 5)))
	run(t, r, april, period(1900, 1), line("50", 2), line("14", -2))
}

// P31.4: lines with the amount 0 are left out, and the others are not merged.
func TestDispose(t *testing.T) {
	for _, c := range []struct {
		cost, salvage, taken, proceeds int
		l                              []api.Line
	}{
		{1200, 0, 0, 0, []api.Line{line("15", -1200), line("41", 1200)}},
		{1200, 0, 0, 1200, []api.Line{line("10", 1200), line("15", -1200)}},
		{1200, 0, 12, 0, []api.Line{line("14", 1200), line("15", -1200)}},
		{1200, 0, 12, 7, []api.Line{line("14", 1200), line("10", 7), line("15", -1200), line("41", -7)}},
		{1200, 0, 2, 1000, []api.Line{line("14", 200), line("10", 1000), line("15", -1200)}},
		{1200, 0, 2, 0, []api.Line{line("14", 200), line("15", -1200), line("41", 1000)}},
		{1200, 0, 2, 1001, []api.Line{line("14", 200), line("10", 1001), line("15", -1200), line("41", -1)}},
		{1200, 600, 13, 600, []api.Line{line("14", 600), line("10", 600), line("15", -1200)}},
		{1, 1, 3, 0, []api.Line{line("15", -1), line("41", 1)}},
		{1, 0, 0, limit, []api.Line{line("10", limit), line("15", -1), line("41", 1-limit)}},
		{limit, 0, 12, limit, []api.Line{line("14", limit), line("10", limit), line("15", -limit), line("41", -limit)}},
		{limit, 0, 0, 0, []api.Line{line("15", -limit), line("41", limit)}},
	} {
		r := build(t, january, asset("a", c.cost, c.salvage, 12), on("51", "13", asset("b", 5, 0, 1)))
		if c.taken > 0 {
			if x, ok, e := r.Run(period(2024+(c.taken-1)/12, 1+(c.taken-1)%12), newYear, "u"); !ok || e != api.OK {
				t.Fatalf("Run = %v, %v, %d", x, ok, e)
			}
		}
		dispose(t, r, "a", c.proceeds, c.l...)
		wantNone(t, r, "a")
		wantBook(t, r, "b", 5, min(5, 5*c.taken))
		noDisposal(t, r, disposal{"a", 0, newYear, newYear, "10", "41", "u"}, api.ErrRef)
	}
	// Accounts that are the same keep lines of their own.
	r := build(t, january, on("50", "15", asset("a", 12, 0, 12)))
	run(t, r, january, period(2024, 1), line("50", 1), line("15", -1))
	wanted := entryOf(3, 5, "a", line("15", 1), line("15", 6), line("15", -12), line("15", 5))
	if x, e := r.Dispose("a", 6, 3, 5, "15", "15", "u"); !entry.Same(x, wanted) || e != api.OK {
		t.Errorf("Dispose = %v, %d, want %v", x, e, wanted)
	}
}

// P31.4: the errors in their order, with which the asset stays.
func TestDisposeErrors(t *testing.T) {
	r := build(t, january, car(), asset("gone", 5, 0, 1))
	run(t, r, january, period(2024, 1), line("50", 105), line("14", -105))
	dispose(t, r, "gone", 0, line("14", 5), line("15", -5))
	right := disposal{"car", 900, newYear, newYear, "10", "41", "u"}
	type changes = []func(d *disposal)
	var ids, proceeds, users, days, accounts changes
	for _, s := range append([]string{"gone", "Car", "15"}, noCodes...) {
		ids = append(ids, func(d *disposal) { d.id = s })
	}
	for _, n := range []int{-1, limit + 1, -limit, most, least} {
		proceeds = append(proceeds, func(d *disposal) { d.proceeds = n })
	}
	for _, s := range noCodes {
		users = append(users, func(d *disposal) { d.by = s })
		accounts = append(accounts, func(d *disposal) { d.bank = s }, func(d *disposal) { d.gain = s })
	}
	for _, n := range noDays {
		days = append(days, func(d *disposal) { d.book = n }, func(d *disposal) { d.value = n })
	}
	inOrder(right, []wrong[disposal]{{api.ErrRef, ids}, {api.ErrRange, proceeds}, {api.ErrName, users}, {api.ErrDate, days}, {api.ErrName, accounts}}, func(d disposal, e api.Errno) {
		t.Helper()
		noDisposal(t, r, d, e)
	})
	wantBook(t, r, "car", 1200, 100)
	wantTotals(t, r, 1, 1200, 100)
	run(t, r, january, period(2024, 2), line("50", 100), line("14", -100))
	// The account of a line that is left out is not looked at.
	if x, e := r.Dispose("car", 0, newYear, newYear, "", "41", "u"); len(x.Lines) != 3 || e != api.OK {
		t.Errorf("Dispose without proceeds = %v, %d", x, e)
	}
	add(t, r, asset("x", 5, 0, 1), api.OK)
	if x, e := r.Dispose("x", 5, 0, api.MaxDay, "10", "", "u"); len(x.Lines) != 2 || e != api.OK {
		t.Errorf("Dispose without a gain = %v, %d", x, e)
	}
}

// P31.4: the ids of assets that have been disposed of are not used again, and the last run month stays.
func TestDisposeIsFinal(t *testing.T) {
	r := build(t, january, car())
	run(t, r, january, period(2024, 1), line("50", 100), line("14", -100))
	dispose(t, r, "car", 0, line("14", 100), line("15", -1200), line("41", 1100))
	add(t, r, car(), api.ErrTwice)
	add(t, r, asset("car", 1, 0, 1), api.ErrTwice)
	wantTotals(t, r, 0, 0, 0)
	noRun(t, r, period(2024, 1), newYear, "u", api.ErrOrder)
	run(t, r, january, period(2024, 2))
	add(t, r, asset("bus", 3, 0, 3), api.OK)
	run(t, r, january, period(2024, 3), line("50", 3), line("14", -3))
}

// P31.1 to P31.4: the memory of arguments and results is not that of the register.
func TestMemory(t *testing.T) {
	all := []int{1, 0, 3, 9, 9}
	a := usage("a", 100, all[:3]...)
	a.Plan.Units = all[:3]
	r := build(t, january, a)
	if !slices.Equal(all, []int{1, 0, 3, 9, 9}) {
		t.Fatalf("Add changed the units to %v", all)
	}
	clear(all)
	first, _ := r.Asset("a")
	if !slices.Equal(first.Plan.Units, []int{1, 0, 3}) {
		t.Fatalf("the units are %v", first.Plan.Units)
	}
	clear(first.Plan.Units)
	_ = append(first.Plan.Units, 7)
	if again, _ := r.Asset("a"); !slices.Equal(again.Plan.Units, []int{1, 0, 3}) {
		t.Fatalf("the units are %v", again.Plan.Units)
	}
	x, _, _ := r.Run(period(2024, 1), newYear, "u")
	clear(x.Lines)
	x, _, _ = r.Run(period(2024, 2), newYear, "u")
	clear(x.Lines)
	run(t, r, january, period(2024, 3), line("50", 75), line("14", -75))
	// Units that the method ignores are kept all the same.
	b := asset("b", 3, 0, 1)
	b.Plan.Units, b.Plan.F = []int{-5}, api.Frac{N: 2, D: 4}
	add(t, r, b, api.OK)
	if got, ok := r.Asset("b"); !reflect.DeepEqual(got, b) || !ok {
		t.Errorf("Asset(b) = %v, %v, want %v", got, ok, b)
	}
}

// model is a register that does not keep what has been taken: it counts the months anew whenever it is asked.
type model struct {
	c      api.Calendar
	there  []api.FixedAsset      // by increasing Id
	added  map[string]api.Period // the last run month when an asset was added, up to the next run
	last   api.Period
	ledger map[string]int // what the entries have posted, by account
	used   map[string]bool
}

// next returns the month that follows p.
func (m *model) next(p api.Period) api.Period {
	q, _ := fiscal.Next(m.c, p)
	if q.No == 13 {
		q, _ = fiscal.Next(m.c, q)
	}
	return q
}

// accum returns the depreciation of an asset after the run of the month p, or 0 if there has been no run since it was added.
func (m *model) accum(a api.FixedAsset, p api.Period) (n int) {
	if p == (api.Period{}) || m.added[a.Id] == p {
		return 0
	}
	l, _ := deprec.Schedule(a.Plan)
	month := a.Start
	for _, amount := range l {
		if fiscal.Cmp(month, p) > 0 {
			break
		}
		n += amount
		month = m.next(month)
	}
	return n
}

// run returns the lines of the entry for the month p, which it posts.
func (m *model) run(p api.Period) (l []api.Line) {
	for _, a := range m.there {
		amount := m.accum(a, p) - m.accum(a, m.last)
		if amount != 0 {
			l = append(l, line(a.Expense, amount), line(a.Accum, -amount))
		}
		if m.added[a.Id] == m.last {
			delete(m.added, a.Id)
		}
	}
	l, _ = entry.Merge(l)
	m.last = p
	m.post(l)
	return l
}

// post adds lines to the ledger.
func (m *model) post(l []api.Line) {
	for _, x := range l {
		m.ledger[x.Account] += x.Amount
	}
}

// add adds an asset, and posts its cost.
func (m *model) add(a api.FixedAsset) {
	m.there = append(m.there, a)
	slices.SortFunc(m.there, func(a, b api.FixedAsset) int { return strings.Compare(a.Id, b.Id) })
	m.added[a.Id], m.used[a.Id] = m.last, true
	m.ledger[a.Cost] += a.Plan.Cost
}

// check fails if the register and the model differ, or if the register does not agree with the ledger.
func (m *model) check(t *testing.T, r *assets.Register) {
	t.Helper()
	costs, accums := map[string]int{}, map[string]int{}
	sumCost, sumAccum := 0, 0
	for _, a := range m.there {
		accum := m.accum(a, m.last)
		wantBook(t, r, a.Id, a.Plan.Cost, accum)
		if got, ok := r.Asset(a.Id); !reflect.DeepEqual(got, a) || !ok {
			t.Fatalf("Asset(%q) = %v, %v, want %v", a.Id, got, ok, a)
		}
		if accum > a.Plan.Cost-a.Plan.Salvage {
			t.Fatalf("the depreciation of %v is %d", a, accum)
		}
		costs[a.Cost] += a.Plan.Cost
		accums[a.Accum] -= accum
		sumCost, sumAccum = sumCost+a.Plan.Cost, sumAccum+accum
	}
	wantTotals(t, r, len(m.there), sumCost, sumAccum)
	for _, account := range []string{"15", "16"} {
		if m.ledger[account] != costs[account] {
			t.Fatalf("account %s has %d, want the costs of %d", account, m.ledger[account], costs[account])
		}
	}
	for _, account := range []string{"13", "14"} {
		if m.ledger[account] != accums[account] {
			t.Fatalf("account %s has %d, want the depreciation of %d", account, m.ledger[account], accums[account])
		}
	}
}

// random returns an asset without errors that starts in a month near p.
func random(r *rand.Rand, id string, p api.Period) api.FixedAsset {
	cost := 1 + r.Intn([]int{5, 100, 100000}[r.Intn(3)])
	a := api.FixedAsset{Id: id, Cost: []string{"15", "16"}[r.Intn(2)], Accum: []string{"13", "14"}[r.Intn(2)], Expense: []string{"50", "51", "52"}[r.Intn(3)]}
	a.Plan = api.Plan{Method: 1 + r.Intn(4), Cost: cost, Salvage: []int{0, r.Intn(cost + 1), cost}[r.Intn(3)], Periods: 1 + r.Intn(15), F: api.Frac{N: 1, D: 2 + r.Intn(9)}}
	for range a.Plan.Periods {
		a.Plan.Units = append(a.Plan.Units, r.Intn(4))
	}
	a.Plan.Units[r.Intn(a.Plan.Periods)]++
	a.Start = period(p.Year-1+r.Intn(3), 1+r.Intn(12))
	return a
}

// P31.1 to P31.5: random calls, compared with the model after each of them. The entries add up to what the register tells.
func TestRandomCalls(t *testing.T) {
	rnd := rand.New(rand.NewSource(31))
	var runs, empty, disposals int
	for range 150 {
		c := api.Calendar{First: 1 + rnd.Intn(12)}
		r := build(t, c)
		m := &model{c: c, added: map[string]api.Period{}, ledger: map[string]int{}, used: map[string]bool{}}
		month := period(2023, 1+rnd.Intn(12))
		for n := range 60 {
			switch choice := rnd.Intn(5); {
			case choice < 2:
				a := random(rnd, "x"+strconv.Itoa(rnd.Intn(40)), month)
				if m.used[a.Id] {
					add(t, r, a, api.ErrTwice)
					break
				}
				add(t, r, a, api.OK)
				m.add(a)
			case choice < 4:
				l := m.run(month)
				run(t, r, c, month, l...)
				month = m.next(month)
				runs++
				if len(l) == 0 {
					empty++
				}
			case len(m.there) > 0:
				at := rnd.Intn(len(m.there))
				a := m.there[at]
				m.there = slices.Delete(m.there, at, at+1)
				x, e := r.Dispose(a.Id, rnd.Intn(200)*rnd.Intn(2), newYear+n, newYear, "10", "41", "u")
				if at, f := entry.Check(x); f != api.OK || e != api.OK {
					t.Fatalf("Dispose(%v) = %v, %d; its check is %d, %d", a, x, e, at, f)
				}
				m.post(x.Lines)
				disposals++
			}
			m.check(t, r)
		}
	}
	if runs < 1000 || empty < 100 || disposals < 500 {
		t.Errorf("there are only %d runs, %d of them empty, and %d disposals", runs, empty, disposals)
	}
}

// P31.5: the depreciation grows up to Cost - Salvage, which it reaches in the last month of an asset and never exceeds.
func TestWholeLife(t *testing.T) {
	rnd := rand.New(rand.NewSource(32))
	for range 200 {
		a := random(rnd, "a", period(2024, 1))
		a.Start = period(2024, 1+rnd.Intn(12))
		r := build(t, january, a)
		posted, before, month := 0, 0, a.Start
		for n := range a.Plan.Periods + 3 {
			x, _, e := r.Run(month, newYear, "u")
			for _, l := range x.Lines {
				if l.Account == a.Accum {
					posted -= l.Amount
				}
			}
			_, accum, ok := r.Book("a")
			if accum != posted || accum < before || accum > a.Plan.Cost-a.Plan.Salvage || !ok || e != api.OK {
				t.Fatalf("the depreciation of %v in %v is %d after %d, the entries have %d, %d", a, month, accum, before, posted, e)
			}
			if n+1 >= a.Plan.Periods && accum != a.Plan.Cost-a.Plan.Salvage {
				t.Fatalf("the depreciation of %v after %d months is %d", a, n+1, accum)
			}
			before = accum
			month = period(month.Year+month.No/12, month.No%12+1)
		}
	}
}
