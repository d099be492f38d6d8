package open_test

import (
	"cmp"
	"math"
	"math/big"
	"math/rand"
	"reflect"
	"slices"
	"strings"
	"testing"

	"accounting/api"
	"accounting/open"
)

const most, least, large = math.MaxInt, math.MinInt, api.MaxAmount

// noDays are integers that are not days, and noIds integers that are no numbers of items.
var (
	noDays = []int{-1, api.MaxDay + 1, -api.MaxDay, most, least}
	noIds  = []int{0, -1, -2, 10001, most, least}
)

// parties and curs have an empty and an unknown element.
var (
	parties = []string{"", "p", "q", "P", "x"}
	curs    = []string{"", "USD", "EUR", "CHF"}
)

// item returns an item of the party p in USD.
func item(amount, base, due int) api.OpenItem {
	return api.OpenItem{Party: "p", Cur: "USD", Amount: amount, Base: base, Day: 1, Due: due, Ref: "r"}
}

// of returns an item of another party and currency.
func of(party, cur string, i api.OpenItem) api.OpenItem {
	i.Party, i.Cur = party, cur
	return i
}

// build returns a set of these items.
func build(t *testing.T, l ...api.OpenItem) *open.Items {
	t.Helper()
	x := open.New()
	for _, i := range l {
		wantAdd(t, x, i, x.Len()+1, api.OK)
	}
	return x
}

// example returns the items of the chapter's first example.
func example(t *testing.T) *open.Items {
	t.Helper()
	return build(t, item(100, 91, 30), item(-40, -35, 5))
}

// wantAdd fails unless Add returns this number and this error.
func wantAdd(t *testing.T, x *open.Items, i api.OpenItem, id int, e api.Errno) {
	t.Helper()
	if n, f := x.Add(i); n != id || f != e {
		t.Fatalf("Add(%v) = %d, %d, want %d, %d", i, n, f, id, e)
	}
}

// wantSettle fails unless Settle returns these shares, or this error.
func wantSettle(t *testing.T, x *open.Items, pos, neg, amount, day, posBase, negBase int, e api.Errno) {
	t.Helper()
	wanted := api.Settlement{}
	if e == api.OK {
		wanted = api.Settlement{Pos: pos, Neg: neg, Amount: amount, Day: day, PosBase: posBase, NegBase: negBase}
	}
	if s, f := x.Settle(pos, neg, amount, day); s != wanted || f != e {
		t.Fatalf("Settle(%d, %d, %d, %d) = %v, %d, want %v, %d", pos, neg, amount, day, s, f, wanted, e)
	}
}

// wantUndo fails unless Undo returns this settlement and this error.
func wantUndo(t *testing.T, x *open.Items, wanted api.Settlement, e api.Errno) {
	t.Helper()
	if s, f := x.Undo(); s != wanted || f != e {
		t.Fatalf("Undo() = %v, %d, want %v, %d", s, f, wanted, e)
	}
}

// wantPair fails unless a query returns this amount and this base.
func wantPair(t *testing.T, wantedAmount, wantedBase int) func(amount, base int) {
	t.Helper()
	return func(amount, base int) {
		t.Helper()
		if amount != wantedAmount || base != wantedBase {
			t.Errorf("the amount and the base are %d, %d, want %d, %d", amount, base, wantedAmount, wantedBase)
		}
	}
}

// place is a party and a currency.
type place struct{ party, cur string }

// view holds what the queries tell of items.
type view struct {
	items   []api.OpenItem
	left    [][2]int
	settled []api.Settlement
	open    map[place][]int
	totals  map[place][2]int
	plans   map[place][]api.Settlement
}

// look returns what the queries tell of items. Empty slices are nil.
func look(t *testing.T, x *open.Items) view {
	t.Helper()
	v := view{settled: append([]api.Settlement(nil), x.Settled()...), open: map[place][]int{}, totals: map[place][2]int{}, plans: map[place][]api.Settlement{}}
	for id := 1; id <= x.Len(); id++ {
		i, ok := x.Item(id)
		if !ok {
			t.Fatalf("there is no item %d of %d", id, x.Len())
		}
		amount, base := x.Left(id)
		v.items, v.left = append(v.items, i), append(v.left, [2]int{amount, base})
	}
	for _, party := range parties {
		for _, cur := range curs {
			at := place{party, cur}
			amount, base := x.Totals(party, cur)
			v.totals[at] = [2]int{amount, base}
			v.open[at] = append([]int(nil), x.Open(party, cur)...)
			v.plans[at] = append([]api.Settlement(nil), x.Plan(party, cur)...)
		}
	}
	return v
}

// wantSame fails unless the queries tell the same as before.
func wantSame(t *testing.T, x *open.Items, before view) {
	t.Helper()
	if after := look(t, x); !reflect.DeepEqual(after, before) {
		t.Fatalf("the items changed from %v to %v", before, after)
	}
}

// P26.1 to P26.5: the chapter's examples.
func TestExamples(t *testing.T) {
	x := example(t)
	if l := x.Plan("p", "USD"); !slices.Equal(l, []api.Settlement{{Pos: 1, Neg: 2, Amount: 40, PosBase: 36, NegBase: 35}}) {
		t.Errorf("Plan = %v", l)
	}
	before := look(t, x)
	wantSettle(t, x, 1, 2, 30, 6, 27, 26, api.OK)
	wantPair(t, 70, 64)(x.Left(1))
	wantPair(t, -10, -9)(x.Left(2))
	wantSettle(t, x, 1, 2, 11, 6, 0, 0, api.ErrLeft)
	wantUndo(t, x, api.Settlement{Pos: 1, Neg: 2, Amount: 30, Day: 6, PosBase: 27, NegBase: 26}, api.OK)
	wantSame(t, x, before)
	wantPair(t, 60, 56)(x.Totals("p", ""))
	wantAdd(t, x, item(-40, 35, 5), 0, api.ErrArg)
}

// P26.1: items at the limits, each of which is kept as it is.
func TestAdd(t *testing.T) {
	l := []api.OpenItem{
		item(1, 0, 0), item(-1, 0, 0), item(1, 1, 0), item(-1, -1, 0), item(large, large, 0), item(-large, -large, 0), item(large, 0, 0), item(-large, 0, 0), item(1, large, 0), item(-1, -large, 0),
		{Party: "p", Cur: "AAA", Amount: 1}, {Party: strings.Repeat("Z", 12), Cur: "ZZZ", Amount: 1, Day: api.MaxDay, Due: api.MaxDay, Ref: strings.Repeat("~", 60)},
		// An item can be due before its day, and two items can be equal.
		{Party: "_9", Cur: "USD", Amount: -5, Base: -4, Day: 100, Due: 99, Ref: " \"\\ "}, {Party: "_9", Cur: "USD", Amount: -5, Base: -4, Day: 100, Due: 99, Ref: " \"\\ "},
	}
	x := build(t, l...)
	if x.Len() != len(l) {
		t.Errorf("Len = %d, want %d", x.Len(), len(l))
	}
	for n, i := range l {
		if got, ok := x.Item(n + 1); got != i || !ok {
			t.Errorf("Item(%d) = %v, %v, want %v", n+1, got, ok, i)
		}
		wantPair(t, i.Amount, i.Base)(x.Left(n + 1))
	}
	// Every set has numbers of its own.
	y := build(t, item(7, 7, 7))
	if x.Len() != len(l) || y.Len() != 1 {
		t.Errorf("Len = %d and %d", x.Len(), y.Len())
	}
}

// wrongItems are changes of an item that lead to an error, in the order of the errors. Those for ErrArg and ErrOver change the same fields.
func wrongItems() []struct {
	e       api.Errno
	changes []func(i *api.OpenItem)
} {
	type changes = []func(i *api.OpenItem)
	var days changes
	for _, n := range noDays {
		days = append(days, func(i *api.OpenItem) { i.Day = n }, func(i *api.OpenItem) { i.Due = n })
	}
	return []struct {
		e       api.Errno
		changes []func(i *api.OpenItem)
	}{
		{api.ErrName, changes{func(i *api.OpenItem) { i.Party = "" }, func(i *api.OpenItem) { i.Party = "p q" }, func(i *api.OpenItem) { i.Party = "é" }, func(i *api.OpenItem) { i.Party = strings.Repeat("p", 13) }}},
		{api.ErrCur, changes{func(i *api.OpenItem) { i.Cur = "" }, func(i *api.OpenItem) { i.Cur = "usd" }, func(i *api.OpenItem) { i.Cur = "US" }, func(i *api.OpenItem) { i.Cur = "USDX" }, func(i *api.OpenItem) { i.Cur = "US1" }}},
		{api.ErrArg, changes{func(i *api.OpenItem) { i.Amount = 0 }, func(i *api.OpenItem) { i.Amount, i.Base = 0, 0 }, func(i *api.OpenItem) { i.Base = -1 }, func(i *api.OpenItem) { i.Amount = -1 }, func(i *api.OpenItem) { i.Base = least }, func(i *api.OpenItem) { i.Amount = least }, func(i *api.OpenItem) { i.Amount, i.Base = most, least }, func(i *api.OpenItem) { i.Amount, i.Base = least, most }}},
		{api.ErrOver, changes{func(i *api.OpenItem) { i.Amount = large + 1 }, func(i *api.OpenItem) { i.Base = large + 1 }, func(i *api.OpenItem) { i.Amount, i.Base = most, most }, func(i *api.OpenItem) { i.Amount, i.Base = -large-1, -1 }, func(i *api.OpenItem) { i.Amount, i.Base = -1, -large-1 }, func(i *api.OpenItem) { i.Amount, i.Base = least, least }, func(i *api.OpenItem) { i.Amount, i.Base = least, 0 }}},
		{api.ErrDate, days},
		{api.ErrForm, changes{func(i *api.OpenItem) { i.Ref = strings.Repeat("r", 61) }, func(i *api.OpenItem) { i.Ref = "a\nb" }, func(i *api.OpenItem) { i.Ref = "\x7f" }, func(i *api.OpenItem) { i.Ref = "é" }}},
	}
}

// P26.1: each error, and its place before all that follow it.
func TestAddErrors(t *testing.T) {
	x := example(t)
	before := look(t, x)
	l := wrongItems()
	for n, c := range l {
		for _, change := range c.changes {
			i := item(100, 91, 30)
			change(&i)
			wantAdd(t, x, i, 0, c.e)
			for _, later := range l[n+1:] {
				if c.e == api.ErrArg && later.e == api.ErrOver {
					continue
				}
				for _, worse := range later.changes {
					i := item(100, 91, 30)
					worse(&i)
					change(&i)
					wantAdd(t, x, i, 0, c.e)
				}
			}
		}
	}
	// Amounts and Bases that are too large and have the wrong sign, or no Amount.
	for _, c := range [][2]int{{-1, large + 1}, {large + 1, -1}, {1, -large - 1}, {-large - 1, 1}, {0, large + 1}, {0, least}, {most, least}, {least, most}} {
		wantAdd(t, x, item(c[0], c[1], 0), 0, api.ErrArg)
	}
	wantSame(t, x, before)
	wantAdd(t, x, item(1, 1, 1), 3, api.OK)
}

// P26.1, P26.2: as many items as possible, with the largest amounts.
func TestMostItems(t *testing.T) {
	x := open.New()
	for n := range api.MaxSteps {
		wantAdd(t, x, item(large, large, api.MaxSteps-n), n+1, api.OK)
	}
	wantAdd(t, x, item(1, 1, 1), 0, api.ErrMany)
	for _, c := range wrongItems() {
		i := item(100, 91, 30)
		c.changes[0](&i)
		wantAdd(t, x, i, 0, c.e)
	}
	wantPair(t, api.MaxSteps*large, api.MaxSteps*large)(x.Totals("p", "USD"))
	wantPair(t, api.MaxSteps*large, api.MaxSteps*large)(x.Totals("", ""))
	ids := x.Open("p", "USD")
	if x.Len() != api.MaxSteps || len(ids) != api.MaxSteps || ids[0] != api.MaxSteps || ids[api.MaxSteps-1] != 1 {
		t.Errorf("there are %d items, %d of them open", x.Len(), len(ids))
	}
	if l := x.Plan("p", "USD"); len(l) != 0 {
		t.Errorf("Plan = %v", l)
	}
}

// P26.1 to P26.5: a nil pointer.
func TestNil(t *testing.T) {
	var x *open.Items
	wantAdd(t, x, item(1, 1, 1), 0, api.ErrNone)
	wantAdd(t, x, api.OpenItem{}, 0, api.ErrNone)
	wantSettle(t, x, 0, 0, 0, -1, 0, 0, api.ErrNone)
	wantSettle(t, x, 1, 2, 3, 4, 0, 0, api.ErrNone)
	wantUndo(t, x, api.Settlement{}, api.ErrNone)
	if v := look(t, x); x.Len() != 0 || len(v.settled) != 0 {
		t.Errorf("a nil pointer has %v", v)
	}
	for _, party := range parties {
		for _, cur := range curs {
			wantPair(t, 0, 0)(x.Totals(party, cur))
			if len(x.Open(party, cur)) != 0 || len(x.Plan(party, cur)) != 0 {
				t.Errorf("a nil pointer has items of %s in %s", party, cur)
			}
		}
	}
	for _, id := range append([]int{1}, noIds...) {
		wantPair(t, 0, 0)(x.Left(id))
		if i, ok := x.Item(id); i != (api.OpenItem{}) || ok {
			t.Errorf("Item(%d) = %v, %v", id, i, ok)
		}
	}
}

// P26.2: numbers that no item has.
func TestNoItem(t *testing.T) {
	for _, x := range []*open.Items{open.New(), example(t)} {
		for _, id := range append([]int{x.Len() + 1}, noIds...) {
			wantPair(t, 0, 0)(x.Left(id))
			if i, ok := x.Item(id); i != (api.OpenItem{}) || ok {
				t.Errorf("Item(%d) = %v, %v", id, i, ok)
			}
		}
	}
}

// mixed returns items of several parties and currencies.
func mixed(t *testing.T) *open.Items {
	t.Helper()
	return build(t,
		item(100, 91, 30), item(-40, -35, 5), item(50, 44, 20), of("p", "EUR", item(-7, -7, 5)), of("q", "USD", item(-9, -8, 5)),
		item(3, 0, 5), item(-1, -1, 20), of("P", "USD", item(2, 2, 0)), of("q", "EUR", item(11, 11, 1)), item(-4, 0, 0),
	)
}

// P26.2
func TestOpen(t *testing.T) {
	x := mixed(t)
	want := func(party, cur string, ids ...int) {
		t.Helper()
		if l := x.Open(party, cur); !slices.Equal(l, ids) {
			t.Errorf("Open(%s, %s) = %v, want %v", party, cur, l, ids)
		}
	}
	want("p", "USD", 10, 2, 6, 3, 7, 1)
	want("p", "EUR", 4)
	want("q", "USD", 5)
	want("q", "EUR", 9)
	want("P", "USD", 8)
	// Only Totals has an empty party or currency stand for all.
	want("", "USD")
	want("p", "")
	want("", "")
	want("p", "CHF")
	want("x", "USD")
	wantSettle(t, x, 6, 10, 3, 0, 0, 0, api.OK)
	want("p", "USD", 10, 2, 3, 7, 1)
	wantSettle(t, x, 3, 10, 1, 0, 1, 0, api.OK)
	want("p", "USD", 2, 3, 7, 1)
	wantUndo(t, x, api.Settlement{Pos: 3, Neg: 10, Amount: 1, PosBase: 1}, api.OK)
	want("p", "USD", 10, 2, 3, 7, 1)
	x.Open("p", "USD")[0] = 99
	_ = append(x.Open("p", "USD")[:1], 99)
	want("p", "USD", 10, 2, 3, 7, 1)
}

// P26.2: an item without a base is open as long as an amount is left, and one with a base is closed by its amount only.
func TestOpenWithoutBase(t *testing.T) {
	x := build(t, item(2, 1, 1), item(-2, 0, 1))
	// Half of the base 1 is rounded to the even 0, and what is left is the whole of it.
	wantSettle(t, x, 1, 2, 1, 0, 0, 0, api.OK)
	wantPair(t, 1, 1)(x.Left(1))
	wantPair(t, -1, 0)(x.Left(2))
	if l := x.Open("p", "USD"); !slices.Equal(l, []int{1, 2}) {
		t.Errorf("Open = %v", l)
	}
	wantSettle(t, x, 1, 2, 1, 0, 1, 0, api.OK)
	wantPair(t, 0, 0)(x.Left(1))
	y := build(t, item(3, 1, 1), item(-3, -1, 1))
	// Two thirds of the base 1 are rounded to 1, and nothing of it is left.
	wantSettle(t, y, 1, 2, 2, 0, 1, 1, api.OK)
	wantPair(t, 1, 0)(y.Left(1))
	wantPair(t, -1, 0)(y.Left(2))
	if l := y.Open("p", "USD"); !slices.Equal(l, []int{1, 2}) {
		t.Errorf("Open = %v", l)
	}
	wantSettle(t, y, 1, 2, 1, 0, 0, 0, api.OK)
}

// P26.2
func TestTotals(t *testing.T) {
	x := mixed(t)
	for at, wanted := range map[place][2]int{
		{"p", "USD"}: {108, 99}, {"p", "EUR"}: {-7, -7}, {"p", ""}: {101, 92}, {"q", ""}: {2, 3}, {"P", ""}: {2, 2}, {"", "USD"}: {101, 93}, {"", "EUR"}: {4, 4}, {"", ""}: {105, 97},
		{"x", ""}: {0, 0}, {"", "CHF"}: {0, 0}, {"p", "CHF"}: {0, 0}, {"x", "USD"}: {0, 0}, {"x", "CHF"}: {0, 0}, {"q", "USD"}: {-9, -8},
	} {
		wantPair(t, wanted[0], wanted[1])(x.Totals(at.party, at.cur))
	}
	wantSettle(t, x, 1, 2, 30, 6, 27, 26, api.OK)
	wantPair(t, 108, 98)(x.Totals("p", "USD"))
	wantPair(t, 105, 96)(x.Totals("", ""))
	wantPair(t, 0, 0)(open.New().Totals("", ""))
}

// P26.3: shares of a base, rounded to the nearest integer, halves to the even one, whatever their sign.
func TestShares(t *testing.T) {
	for _, c := range []struct{ amount, base, part, share int }{
		{100, 91, 30, 27}, {40, 35, 30, 26}, {10, 5, 5, 2}, {10, 7, 5, 4}, {10, 9, 5, 4}, {10, 11, 5, 6}, {4, 1, 2, 0}, {4, 3, 2, 2}, {4, 2, 1, 0}, {4, 6, 1, 2}, {4, 6, 3, 4}, {4, 10, 1, 2}, {4, 10, 3, 8},
		{3, 1, 1, 0}, {3, 1, 2, 1}, {3, 2, 1, 1}, {3, 1, 3, 1}, {10, 5, 10, 5}, {1, 9, 1, 9}, {7, 0, 3, 0}, {7, 0, 7, 0},
		{large, large, 1, 1}, {large, large, large, large}, {large, large - 1, large - 1, large - 2}, {large, 1, large / 2, 0}, {large, 3, large / 2, 2}, {large, 1, large/2 + 1, 1}, {2, large, 1, large / 2}, {3, large, 2, 666666666667}, {large - 1, large, 999999, 999999},
	} {
		x := build(t, item(c.amount, c.base, 9), item(-c.amount, -c.base, 9))
		before := look(t, x)
		wantSettle(t, x, 1, 2, c.part, 0, c.share, c.share, api.OK)
		wantPair(t, c.amount-c.part, c.base-c.share)(x.Left(1))
		wantPair(t, c.part-c.amount, c.share-c.base)(x.Left(2))
		wantUndo(t, x, api.Settlement{Pos: 1, Neg: 2, Amount: c.part, PosBase: c.share, NegBase: c.share}, api.OK)
		wantSame(t, x, before)
	}
}

// P26.3: the two sides have shares of their own, a later share is that of what is left, and the item itself stays as it was added.
func TestSettle(t *testing.T) {
	x := build(t, item(-3, -2, 0), item(10, 5, 0), item(-20, -33, 0))
	wantSettle(t, x, 2, 3, 5, 0, 2, 8, api.OK)
	wantPair(t, -15, -25)(x.Left(3))
	wantSettle(t, x, 2, 1, 1, api.MaxDay, 1, 1, api.OK)
	wantPair(t, 4, 2)(x.Left(2))
	wantPair(t, -2, -1)(x.Left(1))
	wantSettle(t, x, 2, 3, 4, 7, 2, 7, api.OK)
	wantPair(t, 0, 0)(x.Left(2))
	wantPair(t, -11, -18)(x.Left(3))
	wantSettle(t, x, 2, 3, 1, 7, 0, 0, api.ErrLeft)
	if i, ok := x.Item(2); i != item(10, 5, 0) || !ok {
		t.Errorf("Item(2) = %v, %v", i, ok)
	}
	wanted := []api.Settlement{{Pos: 2, Neg: 3, Amount: 5, PosBase: 2, NegBase: 8}, {Pos: 2, Neg: 1, Amount: 1, Day: api.MaxDay, PosBase: 1, NegBase: 1}, {Pos: 2, Neg: 3, Amount: 4, Day: 7, PosBase: 2, NegBase: 7}}
	if l := x.Settled(); !slices.Equal(l, wanted) {
		t.Errorf("Settled = %v, want %v", l, wanted)
	}
	clear(x.Settled())
	_ = append(x.Settled()[:1], api.Settlement{})
	if l := x.Settled(); !slices.Equal(l, wanted) {
		t.Errorf("Settled shares its memory: %v", l)
	}
}

// P26.3: the errors in their order; each step takes away the first error that is left.
func TestSettleErrors(t *testing.T) {
	x := build(t, item(100, 91, 30), item(-40, -35, 5), of("q", "EUR", item(-7, -7, 5)), of("p", "EUR", item(-7, -7, 5)), of("q", "EUR", item(8, 8, 8)), of("q", "USD", item(-9, -9, 9)))
	before := look(t, x)
	for _, day := range append([]int{1}, noDays...) {
		for _, amount := range []int{0, -1, 1, 41, most, least} {
			for _, id := range append([]int{7}, noIds...) {
				for _, other := range []int{1, 2, id} {
					wantSettle(t, x, id, other, amount, day, 0, 0, api.ErrRef)
					wantSettle(t, x, other, id, amount, day, 0, 0, api.ErrRef)
				}
			}
			for _, c := range [][2]int{{2, 1}, {1, 1}, {2, 2}, {1, 5}, {2, 3}, {3, 2}, {3, 5}, {2, 5}} {
				wantSettle(t, x, c[0], c[1], amount, day, 0, 0, api.ErrKind)
			}
			for _, neg := range []int{3, 6} {
				wantSettle(t, x, 1, neg, amount, day, 0, 0, api.ErrParty)
			}
			wantSettle(t, x, 5, 2, amount, day, 0, 0, api.ErrParty)
			wantSettle(t, x, 5, 4, amount, day, 0, 0, api.ErrParty)
			wantSettle(t, x, 1, 4, amount, day, 0, 0, api.ErrCur)
			wantSettle(t, x, 5, 6, amount, day, 0, 0, api.ErrCur)
			if day != 1 {
				wantSettle(t, x, 1, 2, amount, day, 0, 0, api.ErrDate)
			}
		}
	}
	for _, amount := range []int{0, -1, -40, -100, least} {
		wantSettle(t, x, 1, 2, amount, 1, 0, 0, api.ErrArg)
	}
	for _, amount := range []int{41, 100, 101, large, most} {
		wantSettle(t, x, 1, 2, amount, 1, 0, 0, api.ErrLeft)
	}
	// The claim has less left than the credit.
	wantAdd(t, x, item(-500, -500, 1), 7, api.OK)
	wantSettle(t, x, 1, 7, 101, 1, 0, 0, api.ErrLeft)
	wantSettle(t, x, 1, 7, 100, 1, 91, 100, api.OK)
	wantSettle(t, x, 1, 7, 0, 1, 0, 0, api.ErrArg)
	wantSettle(t, x, 1, 7, 1, 1, 0, 0, api.ErrLeft)
	wantUndo(t, x, api.Settlement{Pos: 1, Neg: 7, Amount: 100, Day: 1, PosBase: 91, NegBase: 100}, api.OK)
	if l := x.Settled(); len(l) != 0 || !slices.Equal(look(t, x).left[:6], before.left) {
		t.Errorf("Settled = %v", l)
	}
}

// P26.3, P26.4: as many settlements as possible.
func TestMostSettlements(t *testing.T) {
	x := build(t, item(api.MaxSteps+1, 0, 1), item(-api.MaxSteps-2, 0, 1))
	for n := range api.MaxSteps {
		wantSettle(t, x, 1, 2, 1, n, 0, 0, api.OK)
	}
	before := look(t, x)
	wantSettle(t, x, 1, 2, 1, 1, 0, 0, api.ErrMany)
	for _, c := range []struct {
		pos, neg, amount, day int
		e                     api.Errno
	}{{1, 3, 1, 1, api.ErrRef}, {2, 1, 1, 1, api.ErrKind}, {1, 2, 1, -1, api.ErrDate}, {1, 2, 0, 1, api.ErrArg}, {1, 2, 2, 1, api.ErrLeft}} {
		wantSettle(t, x, c.pos, c.neg, c.amount, c.day, 0, 0, c.e)
	}
	wantSame(t, x, before)
	// Settlements that were undone do not count.
	wantUndo(t, x, api.Settlement{Pos: 1, Neg: 2, Amount: 1, Day: api.MaxSteps - 1}, api.OK)
	wantSettle(t, x, 1, 2, 2, 5, 0, 0, api.OK)
	wantSettle(t, x, 1, 2, 1, 1, 0, 0, api.ErrLeft)
	l := x.Settled()
	if len(l) != api.MaxSteps || l[0].Day != 0 || l[api.MaxSteps-1].Amount != 2 {
		t.Errorf("there are %d settlements", len(l))
	}
	for range api.MaxSteps {
		if _, e := x.Undo(); e != api.OK {
			t.Fatalf("Undo = %d", e)
		}
	}
	wantUndo(t, x, api.Settlement{}, api.ErrNone)
	wantPair(t, api.MaxSteps+1, 0)(x.Left(1))
	wantPair(t, -api.MaxSteps-2, 0)(x.Left(2))
}

// P26.4: settlements are undone from the last one on, and items that were added in between stay.
func TestUndo(t *testing.T) {
	wantUndo(t, open.New(), api.Settlement{}, api.ErrNone)
	x := example(t)
	wantUndo(t, x, api.Settlement{}, api.ErrNone)
	wantSettle(t, x, 1, 2, 30, 6, 27, 26, api.OK)
	wantAdd(t, x, item(-60, -60, 3), 3, api.OK)
	between := look(t, x)
	wantSettle(t, x, 1, 3, 33, 4, 30, 33, api.OK)
	wantSettle(t, x, 1, 2, 10, 5, 9, 9, api.OK)
	wantUndo(t, x, api.Settlement{Pos: 1, Neg: 2, Amount: 10, Day: 5, PosBase: 9, NegBase: 9}, api.OK)
	wantUndo(t, x, api.Settlement{Pos: 1, Neg: 3, Amount: 33, Day: 4, PosBase: 30, NegBase: 33}, api.OK)
	wantSame(t, x, between)
	// A new settlement takes the place of those that were undone.
	wantSettle(t, x, 1, 3, 60, 1, 55, 60, api.OK)
	if l := x.Settled(); len(l) != 2 || l[0].Amount != 30 || l[1].Amount != 60 {
		t.Errorf("Settled = %v", l)
	}
	wantUndo(t, x, api.Settlement{Pos: 1, Neg: 3, Amount: 60, Day: 1, PosBase: 55, NegBase: 60}, api.OK)
	wantUndo(t, x, api.Settlement{Pos: 1, Neg: 2, Amount: 30, Day: 6, PosBase: 27, NegBase: 26}, api.OK)
	wantUndo(t, x, api.Settlement{}, api.ErrNone)
	wantPair(t, 100, 91)(x.Left(1))
	wantPair(t, -40, -35)(x.Left(2))
	wantPair(t, -60, -60)(x.Left(3))
}

// P26.5
func TestPlan(t *testing.T) {
	x := mixed(t)
	before := look(t, x)
	// In the order of Open the claims are 6, 3 and 1, and the credits 10, 2 and 7.
	wanted := []api.Settlement{{Pos: 6, Neg: 10, Amount: 3}, {Pos: 3, Neg: 10, Amount: 1, PosBase: 1}, {Pos: 3, Neg: 2, Amount: 40, PosBase: 35, NegBase: 35}, {Pos: 3, Neg: 7, Amount: 1, PosBase: 1, NegBase: 1}}
	if l := x.Plan("p", "USD"); !slices.Equal(l, wanted) {
		t.Errorf("Plan = %v, want %v", l, wanted)
	}
	for _, at := range []place{{"p", "EUR"}, {"q", "USD"}, {"q", "EUR"}, {"p", ""}, {"", "USD"}, {"", ""}, {"x", "USD"}} {
		if l := x.Plan(at.party, at.cur); len(l) != 0 {
			t.Errorf("Plan(%s, %s) = %v", at.party, at.cur, l)
		}
	}
	clear(x.Plan("p", "USD"))
	wantSame(t, x, before)
	wantSettle(t, x, 3, 2, 30, 9, 26, 26, api.OK)
	// What has been settled is not planned again.
	wanted = []api.Settlement{{Pos: 6, Neg: 10, Amount: 3}, {Pos: 3, Neg: 10, Amount: 1, PosBase: 1}, {Pos: 3, Neg: 2, Amount: 10, PosBase: 9, NegBase: 9}, {Pos: 3, Neg: 7, Amount: 1, PosBase: 1, NegBase: 1}}
	if l := x.Plan("p", "USD"); !slices.Equal(l, wanted) {
		t.Errorf("Plan = %v, want %v", l, wanted)
	}
}

// P26.5: plans with many items end soon.
func TestLongPlan(t *testing.T) {
	x := open.New()
	for n := range api.MaxSteps / 2 {
		wantAdd(t, x, item(3, 3, n), 2*n+1, api.OK)
		wantAdd(t, x, item(-2, -2, n), 2*n+2, api.OK)
	}
	l := x.Plan("p", "USD")
	sum := 0
	for _, s := range l {
		sum += s.Amount
	}
	// Every settlement closes an item, and all credits are closed.
	if sum != api.MaxSteps || len(l) < api.MaxSteps/2 || len(l) > api.MaxSteps {
		t.Errorf("a plan of %d settlements settles %d", len(l), sum)
	}
}

// book is a model of items: what is left of them follows from the settlements.
type book struct {
	items   []api.OpenItem
	settled []api.Settlement
}

// share returns the share of a base b for the amount a of l.
func share(a, l, b int) int {
	if a == l {
		return b
	}
	product := new(big.Int).Mul(big.NewInt(int64(b)), big.NewInt(int64(a)))
	below, rest := new(big.Int).DivMod(product, big.NewInt(int64(l)), new(big.Int))
	n := int(below.Int64())
	switch half := rest.Lsh(rest, 1).Cmp(big.NewInt(int64(l))); {
	case half > 0, half == 0 && n%2 != 0:
		return n + 1
	}
	return n
}

// left returns what is left of an item after the first n settlements, without signs.
func (b *book) left(id, n int) (amount, base int) {
	amount, base = max(b.items[id-1].Amount, -b.items[id-1].Amount), max(b.items[id-1].Base, -b.items[id-1].Base)
	for _, s := range b.settled[:n] {
		if s.Pos == id || s.Neg == id {
			part := share(s.Amount, amount, base)
			amount, base = amount-s.Amount, base-part
		}
	}
	return amount, base
}

// open returns the numbers of the open items of a party and currency, by their due days and numbers.
func (b *book) open(party, cur string) (ids []int) {
	for n, i := range b.items {
		if amount, _ := b.left(n+1, len(b.settled)); i.Party == party && i.Cur == cur && amount > 0 {
			ids = append(ids, n+1)
		}
	}
	slices.SortStableFunc(ids, func(m, n int) int { return cmp.Compare(b.items[m-1].Due, b.items[n-1].Due) })
	return ids
}

// settle appends a settlement and returns it.
func (b *book) settle(pos, neg, amount, day int) api.Settlement {
	s := api.Settlement{Pos: pos, Neg: neg, Amount: amount, Day: day}
	claim, claimBase := b.left(pos, len(b.settled))
	credit, creditBase := b.left(neg, len(b.settled))
	s.PosBase, s.NegBase = share(amount, claim, claimBase), share(amount, credit, creditBase)
	b.settled = append(b.settled, s)
	return s
}

// plan settles the first open claim with the first open credit as long as there are both.
func (b book) plan(party, cur string) (l []api.Settlement) {
	b.settled = slices.Clone(b.settled)
	for {
		ids := b.open(party, cur)
		claim := slices.IndexFunc(ids, func(id int) bool { return b.items[id-1].Amount > 0 })
		credit := slices.IndexFunc(ids, func(id int) bool { return b.items[id-1].Amount < 0 })
		if claim < 0 || credit < 0 {
			return l
		}
		m, _ := b.left(ids[claim], len(b.settled))
		n, _ := b.left(ids[credit], len(b.settled))
		l = append(l, b.settle(ids[claim], ids[credit], min(m, n), 0))
	}
}

// view returns what the queries should tell of the items.
func (b *book) view() view {
	v := view{items: slices.Clone(b.items), settled: append([]api.Settlement(nil), b.settled...), open: map[place][]int{}, totals: map[place][2]int{}, plans: map[place][]api.Settlement{}}
	for n, i := range b.items {
		amount, base := b.left(n+1, len(b.settled))
		if i.Amount < 0 {
			amount, base = -amount, -base
		}
		v.left = append(v.left, [2]int{amount, base})
	}
	for _, party := range parties {
		for _, cur := range curs {
			at := place{party, cur}
			sum := [2]int{}
			for n, i := range b.items {
				if (party == "" || party == i.Party) && (cur == "" || cur == i.Cur) {
					sum[0] += v.left[n][0]
					sum[1] += v.left[n][1]
				}
			}
			v.totals[at], v.open[at], v.plans[at] = sum, b.open(party, cur), b.plan(party, cur)
		}
	}
	return v
}

// wantConserved fails unless what is left and what was settled add up to each item, with its sign.
func wantConserved(t *testing.T, x *open.Items) {
	t.Helper()
	amounts, bases := map[int]int{}, map[int]int{}
	for _, s := range x.Settled() {
		amounts[s.Pos], bases[s.Pos] = amounts[s.Pos]+s.Amount, bases[s.Pos]+s.PosBase
		amounts[s.Neg], bases[s.Neg] = amounts[s.Neg]-s.Amount, bases[s.Neg]-s.NegBase
	}
	for id := 1; id <= x.Len(); id++ {
		i, _ := x.Item(id)
		amount, base := x.Left(id)
		if amount+amounts[id] != i.Amount || base+bases[id] != i.Base {
			t.Fatalf("%d, %d are left of %v, and %d, %d are settled", amount, base, i, amounts[id], bases[id])
		}
		if i.Amount > 0 && (amount < 0 || base < 0) || i.Amount < 0 && (amount > 0 || base > 0) || amount == 0 && base != 0 {
			t.Fatalf("%d, %d are left of %v", amount, base, i)
		}
	}
}

// random returns an item of one of a few parties and currencies.
func random(r *rand.Rand) api.OpenItem {
	size := []int{4, 100, large}[r.Intn(3)]
	i := item(1+r.Intn(size), r.Intn(size+1), r.Intn(5))
	if r.Intn(2) == 0 {
		i.Amount, i.Base = -i.Amount, -i.Base
	}
	return of(parties[1+r.Intn(2)], curs[1+r.Intn(2)], i)
}

// attempt settles two random items, of which often one cannot be settled with the other, and reports whether it could.
func attempt(t *testing.T, r *rand.Rand, x *open.Items, b *book) bool {
	t.Helper()
	pos, neg, day := 1+r.Intn(x.Len()+1), 1+r.Intn(x.Len()+1), r.Intn(1000)
	at, _ := x.Item(1 + r.Intn(x.Len()))
	if ids := x.Open(at.Party, at.Cur); len(ids) > 0 && r.Intn(4) > 0 {
		pos, neg = ids[r.Intn(len(ids))], ids[r.Intn(len(ids))]
		if b.items[pos-1].Amount < 0 {
			pos, neg = neg, pos
		}
	}
	claim, isItem := x.Item(pos)
	credit, isOther := x.Item(neg)
	switch {
	case !isItem || !isOther:
		wantSettle(t, x, pos, neg, 1, day, 0, 0, api.ErrRef)
		return false
	case claim.Amount < 0 || credit.Amount > 0:
		wantSettle(t, x, pos, neg, 1, day, 0, 0, api.ErrKind)
		return false
	case claim.Party != credit.Party:
		wantSettle(t, x, pos, neg, 1, day, 0, 0, api.ErrParty)
		return false
	case claim.Cur != credit.Cur:
		wantSettle(t, x, pos, neg, 1, day, 0, 0, api.ErrCur)
		return false
	}
	m, _ := b.left(pos, len(b.settled))
	n, _ := b.left(neg, len(b.settled))
	top := min(m, n)
	wantSettle(t, x, pos, neg, top+1, day, 0, 0, api.ErrLeft)
	if top == 0 {
		return false
	}
	amount := 1 + r.Intn(top)
	if r.Intn(3) == 0 {
		amount = top
	}
	s := b.settle(pos, neg, amount, day)
	wantSettle(t, x, pos, neg, amount, day, s.PosBase, s.NegBase, api.OK)
	return true
}

// P26.1 to P26.6: random calls, compared with the model.
func TestRandomCalls(t *testing.T) {
	r := rand.New(rand.NewSource(26))
	settled, undone := 0, 0
	for range 150 {
		x, b := open.New(), &book{}
		for range 60 {
			switch n := r.Intn(10); {
			case n < 4 || x.Len() == 0:
				i := random(r)
				b.items = append(b.items, i)
				wantAdd(t, x, i, len(b.items), api.OK)
			case n < 9:
				if attempt(t, r, x, b) {
					settled++
				}
			case len(b.settled) == 0:
				wantUndo(t, x, api.Settlement{}, api.ErrNone)
			default:
				last := len(b.settled) - 1
				wantUndo(t, x, b.settled[last], api.OK)
				b.settled = b.settled[:last]
				undone++
			}
			wantConserved(t, x)
		}
		wantSame(t, x, b.view())
	}
	if settled < 500 || undone < 100 {
		t.Errorf("%d settlements, %d of them undone", settled, undone)
	}
}

// P26.5, P26.6: carrying out a plan leaves no claim together with a credit, and undoing it restores everything.
func TestPlanIsCarriedOut(t *testing.T) {
	r := rand.New(rand.NewSource(27))
	for range 200 {
		x := open.New()
		for range 2 + r.Intn(12) {
			wantAdd(t, x, of("p", "USD", random(r)), x.Len()+1, api.OK)
		}
		before := look(t, x)
		plan := x.Plan("p", "USD")
		for _, s := range plan {
			wantSettle(t, x, s.Pos, s.Neg, s.Amount, s.Day, s.PosBase, s.NegBase, api.OK)
		}
		signs := map[bool]bool{}
		for _, id := range x.Open("p", "USD") {
			i, _ := x.Item(id)
			signs[i.Amount > 0] = true
		}
		if len(signs) > 1 || len(x.Plan("p", "USD")) != 0 {
			t.Fatalf("the plan %v leaves claims and credits", plan)
		}
		wantConserved(t, x)
		for _, s := range slices.Backward(plan) {
			wantUndo(t, x, s, api.OK)
		}
		wantSame(t, x, before)
	}
}
