package rollup_test

import (
	"math"
	"math/big"
	"math/rand"
	"slices"
	"strconv"
	"testing"

	"accounting/api"
	"accounting/chart"
	"accounting/rollup"
)

const most, least = math.MaxInt, math.MinInt

// group returns an account that cannot be posted to.
func group(code, parent string, kind int) api.Account {
	return api.Account{Code: code, Parent: parent, Kind: kind}
}

// posting returns an account that can be posted to.
func posting(code, parent string, kind int) api.Account {
	return api.Account{Code: code, Parent: parent, Kind: kind, Post: true}
}

// cell returns a cell of an account.
func cell(account string, base int) api.Cell {
	return api.Cell{Key: api.Key{Entity: "a", Account: account, Cur: "EUR"}, Amount: base, Base: base}
}

// build returns the chart of these accounts.
func build(t *testing.T, l ...api.Account) *chart.Chart {
	t.Helper()
	c, at, e := chart.New(l...)
	if e != api.OK {
		t.Fatalf("chart.New returns %d, %d", at, e)
	}
	return c
}

// small returns a chart with all kinds of accounts, whose tree has three levels.
func small(t *testing.T) *chart.Chart {
	t.Helper()
	return build(t, posting("40", "", api.Income), group("1", "", api.Asset), posting("11", "1", api.Asset), group("12", "1", api.Asset), posting("121", "12", api.Asset), posting("122", "12", api.Asset), posting("20", "", api.Liability), posting("30", "", api.Equity), posting("50", "", api.Expense), group("6", "", api.Expense))
}

// wantOf fails unless Of returns these totals and this error.
func wantOf(t *testing.T, c *chart.Chart, l []api.Cell, wanted []api.Total, wantedE api.Errno) {
	t.Helper()
	given := slices.Clone(l)
	if totals, e := rollup.Of(c, l); !slices.Equal(totals, wanted) || e != wantedE {
		t.Errorf("Of(%v) = %v, %d, want %v, %d", l, totals, e, wanted, wantedE)
	}
	if !slices.Equal(l, given) {
		t.Errorf("Of changed its cells to %v", l)
	}
}

// wantKinds fails unless Kinds returns these sums and this error.
func wantKinds(t *testing.T, c *chart.Chart, l []api.Cell, wanted []int, wantedE api.Errno) {
	t.Helper()
	given := slices.Clone(l)
	if sums, e := rollup.Kinds(c, l); !slices.Equal(sums, wanted) || e != wantedE {
		t.Errorf("Kinds(%v) = %v, %d, want %v, %d", l, sums, e, wanted, wantedE)
	}
	if !slices.Equal(l, given) {
		t.Errorf("Kinds changed its cells to %v", l)
	}
}

// P21.1, P21.2: the chapter's examples.
func TestExamples(t *testing.T) {
	c := build(t, group("1", "", api.Asset), posting("10", "1", api.Asset), posting("11", "1", api.Asset), posting("40", "", api.Income))
	l := []api.Cell{cell("10", 70), cell("11", 30), cell("40", -100)}
	wantOf(t, c, l, []api.Total{{Code: "1", Base: 100}, {Code: "10", Base: 70}, {Code: "11", Base: 30}, {Code: "40", Base: -100}}, api.OK)
	wantKinds(t, c, l, []int{0, 100, 0, 0, -100, 0}, api.OK)
	l = append(l, cell("1", 1))
	wantOf(t, c, l, nil, api.ErrAccount)
	wantKinds(t, c, l, nil, api.ErrAccount)
}

// P21.1: accounts without cells, several cells of an account, and cells in any order; the Account and the Base alone count.
func TestOf(t *testing.T) {
	c := small(t)
	zero := []api.Total{{Code: "1"}, {Code: "11"}, {Code: "12"}, {Code: "121"}, {Code: "122"}, {Code: "20"}, {Code: "30"}, {Code: "40"}, {Code: "50"}, {Code: "6"}}
	wantOf(t, c, nil, zero, api.OK)
	wantOf(t, c, []api.Cell{cell("121", 0), cell("40", 0)}, zero, api.OK)
	wantOf(t, c, []api.Cell{cell("121", 5), cell("121", -5)}, zero, api.OK)
	many := []api.Cell{
		{Key: api.Key{Account: "122"}, Amount: most, Base: 1},
		{Key: api.Key{Account: "50", Cur: "x"}, Base: 1000},
		{Key: api.Key{Account: "11", Tags: "not a notation"}, Amount: least, Base: 10},
		{Key: api.Key{Entity: "b", Account: "121", Cur: "USD", Partner: "c", Tags: "d=e"}, Amount: most, Base: 100},
		{Key: api.Key{Account: "122", Cur: "USD"}, Amount: most, Base: 2},
		{Key: api.Key{Account: "122"}, Amount: most, Base: 4},
	}
	wanted := []api.Total{{Code: "1", Base: 117}, {Code: "11", Base: 10}, {Code: "12", Base: 107}, {Code: "121", Base: 100}, {Code: "122", Base: 7}, {Code: "20"}, {Code: "30"}, {Code: "40"}, {Code: "50", Base: 1000}, {Code: "6"}}
	wantOf(t, c, many, wanted, api.OK)
	wantKinds(t, c, many, []int{1117, 117, 0, 0, 0, 1000}, api.OK)
	wantKinds(t, c, []api.Cell{cell("50", 5), cell("40", 4), cell("30", 3), cell("20", 2), cell("11", 1)}, []int{15, 1, 2, 3, 4, 5}, api.OK)
	wantKinds(t, c, nil, make([]int, 6), api.OK)
	empty := build(t)
	wantOf(t, empty, nil, nil, api.OK)
	wantKinds(t, empty, nil, make([]int, 6), api.OK)
	wantOf(t, empty, many, nil, api.ErrAccount)
}

// P21.1
func TestFind(t *testing.T) {
	l := []api.Total{{Code: "1", Base: 5}, {Code: "3", Base: least}, {Code: "1", Base: 7}, {Code: "2"}, {Base: 9}}
	for _, c := range []struct {
		l    []api.Total
		code string
		base int
		ok   bool
	}{
		{l, "1", 5, true}, {l, "3", least, true}, {l, "2", 0, true}, {l, "", 9, true}, {l, "4", 0, false}, {l, "11", 0, false}, {l[:1], "", 0, false}, {l[2:], "1", 7, true}, {nil, "1", 0, false},
	} {
		if base, ok := rollup.Find(c.l, c.code); base != c.base || ok != c.ok {
			t.Errorf("Find(%v, %q) = %d, %t", c.l, c.code, base, ok)
		}
	}
}

// P21.1, P21.2: the errors, and their order.
func TestErrors(t *testing.T) {
	c := small(t)
	large := cell("11", most)
	for _, l := range [][]api.Cell{nil, {cell("11", 1)}, {cell("x", 1)}, {large, large}} {
		wantOf(t, nil, l, nil, api.ErrNone)
		wantKinds(t, nil, l, nil, api.ErrNone)
	}
	for _, account := range []string{"", "x", "2", "111", "1", "12", "6"} {
		for _, l := range [][]api.Cell{{cell(account, 0)}, {cell(account, 1), cell("11", 1)}, {cell("11", 1), cell(account, 1)}, {large, large, cell(account, 1)}} {
			wantOf(t, c, l, nil, api.ErrAccount)
			wantKinds(t, c, l, nil, api.ErrAccount)
		}
	}
	wantOf(t, c, []api.Cell{large}, nil, api.ErrOver)
	wantKinds(t, c, []api.Cell{large}, nil, api.ErrOver)
}

// P21.1, P21.2: sums at and beyond the limit.
func TestOver(t *testing.T) {
	c := small(t)
	const top = api.MaxSum
	for i, x := range []struct {
		l         []api.Cell
		of, kinds api.Errno
	}{
		{[]api.Cell{cell("11", top)}, api.OK, api.OK},
		{[]api.Cell{cell("11", -top)}, api.OK, api.OK},
		{[]api.Cell{cell("11", top+1)}, api.ErrOver, api.ErrOver},
		{[]api.Cell{cell("11", -top-1)}, api.ErrOver, api.ErrOver},
		{[]api.Cell{cell("50", least)}, api.ErrOver, api.ErrOver},
		// An account that cannot be posted to has a sum, too.
		{[]api.Cell{cell("11", top), cell("121", 1)}, api.ErrOver, api.ErrOver},
		{[]api.Cell{cell("11", -top), cell("122", -1)}, api.ErrOver, api.ErrOver},
		{[]api.Cell{cell("121", top), cell("122", 1), cell("11", -1)}, api.ErrOver, api.OK},
		// The sums of the kinds leave those of the accounts aside.
		{[]api.Cell{cell("11", top+1), cell("121", -1)}, api.ErrOver, api.OK},
		{[]api.Cell{cell("11", most), cell("121", -most)}, api.ErrOver, api.OK},
		// The roots have no common sum but that of Kinds.
		{[]api.Cell{cell("11", top), cell("20", 1)}, api.OK, api.ErrOver},
		{[]api.Cell{cell("40", -top), cell("50", -1)}, api.OK, api.ErrOver},
		{[]api.Cell{cell("11", top), cell("20", top), cell("30", -top), cell("50", -top)}, api.OK, api.OK},
		// The sum of all cells is no excuse for that of a kind.
		{[]api.Cell{cell("50", top+1), cell("40", -top-1)}, api.ErrOver, api.ErrOver},
		// Sums are exact, whatever is added first.
		{[]api.Cell{cell("11", most), cell("11", most), cell("11", -most), cell("11", -most), cell("11", 3)}, api.OK, api.OK},
		{[]api.Cell{cell("11", least), cell("11", least), cell("11", most), cell("11", most), cell("11", 2)}, api.OK, api.OK},
		// Twice the smallest int would be 0 if it wrapped around.
		{[]api.Cell{cell("11", least), cell("11", least)}, api.ErrOver, api.ErrOver},
		{[]api.Cell{cell("11", least), cell("121", least)}, api.ErrOver, api.ErrOver},
	} {
		if _, e := rollup.Of(c, x.l); e != x.of {
			t.Errorf("case %d: Of returns %d", i, e)
		}
		if _, e := rollup.Kinds(c, x.l); e != x.kinds {
			t.Errorf("case %d: Kinds returns %d", i, e)
		}
	}
}

// P21.1, P21.3: a chart with as many accounts as possible, as a chain and below one root, with balances at the limit.
func TestLargest(t *testing.T) {
	code := func(i int) string { return strconv.Itoa(100 + i) }
	var chain, wide []api.Account
	var l []api.Cell
	for i := range api.MaxAccounts - 1 {
		parent := code(i - 1)
		if i == 0 {
			parent = ""
		}
		chain = append(chain, group(code(i), parent, api.Asset))
		wide = append(wide, posting(code(i), "1", api.Asset))
		l = append(l, cell(code(i), api.MaxSum))
	}
	chain = append(chain, posting("9", code(api.MaxAccounts-2), api.Asset))
	totals, e := rollup.Of(build(t, chain...), []api.Cell{cell("9", 4), cell("9", 3)})
	if len(totals) != api.MaxAccounts || e != api.OK {
		t.Fatalf("Of returns %d totals, %d", len(totals), e)
	}
	for _, x := range totals {
		if x.Base != 7 {
			t.Errorf("the total of %s is %d", x.Code, x.Base)
		}
	}
	c := build(t, append(wide, group("1", "", api.Asset))...)
	wantOf(t, c, l, nil, api.ErrOver)
	for i := range l {
		if i%2 == 1 {
			l[i].Base = -l[i].Base
		}
	}
	totals, e = rollup.Of(c, l)
	if base, ok := rollup.Find(totals, "1"); base != api.MaxSum || !ok || e != api.OK {
		t.Errorf("the total of the root is %d, %t, %d", base, ok, e)
	}
}

// P21.1, P21.2: results do not share memory with each other.
func TestMemory(t *testing.T) {
	c := small(t)
	l := []api.Cell{cell("11", 1), cell("40", -1)}
	first, _ := rollup.Of(c, l)
	sums, _ := rollup.Kinds(c, l)
	kept, keptSums := slices.Clone(first), slices.Clone(sums)
	clear(first)
	clear(sums)
	wantOf(t, c, l, kept, api.OK)
	wantKinds(t, c, l, keptSums, api.OK)
}

// randomAccounts returns the accounts of a forest, in any order.
func randomAccounts(r *rand.Rand) (l []api.Account) {
	for i := range 1 + r.Intn(12) {
		a := api.Account{Code: strconv.Itoa(r.Intn(90) + 10*i*i), Kind: 1 + r.Intn(5), Post: r.Intn(3) > 0}
		if slices.ContainsFunc(l, func(b api.Account) bool { return a.Code == b.Code }) {
			continue
		}
		if i > 0 && r.Intn(4) > 0 {
			if b := l[r.Intn(len(l))]; !b.Post {
				a.Parent, a.Kind = b.Code, b.Kind
			}
		}
		l = append(l, a)
	}
	r.Shuffle(len(l), func(i, k int) { l[i], l[k] = l[k], l[i] })
	return l
}

// randomCells returns cells, most of which can be posted.
func randomCells(r *rand.Rand, accounts []api.Account) (l []api.Cell) {
	scale := []int{10, api.MaxSum / 2, api.MaxSum, most}[r.Intn(4)]
	for range r.Intn(9) {
		a := accounts[r.Intn(len(accounts))]
		base := r.Intn(scale)
		if r.Intn(2) > 0 {
			base = -base - r.Intn(2)
		}
		if a.Post || r.Intn(30) == 0 {
			l = append(l, cell(a.Code, base))
		}
		if a.Post && r.Intn(2) > 0 {
			l = append(l, cell(a.Code, -base))
		}
	}
	if r.Intn(30) == 0 {
		l = append(l, cell("x", 1))
	}
	r.Shuffle(len(l), func(i, k int) { l[i], l[k] = l[k], l[i] })
	return l
}

// exact returns the exact sum of the Bases of the wanted cells, and whether it is within the limit.
func exact(l []api.Cell, wanted func(account string) bool) (n int, ok bool) {
	sum := new(big.Int)
	for _, x := range l {
		if wanted(x.Key.Account) {
			sum.Add(sum, big.NewInt(int64(x.Base)))
		}
	}
	return int(sum.Int64()), sum.CmpAbs(big.NewInt(api.MaxSum)) <= 0
}

// modelOf returns what P21.1 says, with one pass over the cells for each account.
func modelOf(c *chart.Chart, l []api.Cell) (t []api.Total, e api.Errno) {
	if !postable(c, l) {
		return nil, api.ErrAccount
	}
	for _, a := range c.All() {
		base, ok := exact(l, func(account string) bool { return c.Under(account, a.Code) })
		if !ok {
			return nil, api.ErrOver
		}
		t = append(t, api.Total{Code: a.Code, Base: base})
	}
	return t, api.OK
}

// modelKinds returns what P21.2 says, with one pass over the cells for each kind.
func modelKinds(c *chart.Chart, l []api.Cell) (t []int, e api.Errno) {
	if !postable(c, l) {
		return nil, api.ErrAccount
	}
	for kind := range 6 {
		n, ok := exact(l, func(account string) bool {
			a, _ := c.Get(account)
			return kind == 0 || a.Kind == kind
		})
		if !ok {
			return nil, api.ErrOver
		}
		t = append(t, n)
	}
	return t, api.OK
}

// postable reports whether all cells have accounts that can be posted to.
func postable(c *chart.Chart, l []api.Cell) bool {
	posts := c.Posts("")
	return !slices.ContainsFunc(l, func(x api.Cell) bool { return !slices.Contains(posts, x.Key.Account) })
}

// P21.1, P21.2, P21.3: random trees and cells.
func TestRandom(t *testing.T) {
	r := rand.New(rand.NewSource(21))
	ofCounts, kindCounts := map[api.Errno]int{}, map[api.Errno]int{}
	for range 20000 {
		accounts := randomAccounts(r)
		c := build(t, accounts...)
		l := randomCells(r, accounts)
		totals, e := modelOf(c, l)
		wantOf(t, c, l, totals, e)
		ofCounts[e]++
		sums, e := modelKinds(c, l)
		wantKinds(t, c, l, sums, e)
		kindCounts[e]++
		if len(totals) > 0 {
			checkTree(t, c, l)
		}
		if t.Failed() {
			t.Fatalf("with the accounts %v", accounts)
		}
	}
	for _, e := range []api.Errno{api.OK, api.ErrAccount, api.ErrOver} {
		if ofCounts[e] < 500 || kindCounts[e] < 500 {
			t.Errorf("%d occurs %d and %d times", e, ofCounts[e], kindCounts[e])
		}
	}
}

// checkTree fails unless the totals add up from the leaves to the roots and to all cells.
func checkTree(t *testing.T, c *chart.Chart, l []api.Cell) {
	t.Helper()
	totals, _ := rollup.Of(c, l)
	ofKids := func(code string) *big.Int {
		sum := new(big.Int)
		for _, kid := range c.Kids(code) {
			base, ok := rollup.Find(totals, kid)
			if !ok {
				t.Errorf("%s has no total", kid)
			}
			sum.Add(sum, big.NewInt(int64(base)))
		}
		return sum
	}
	for _, a := range c.All() {
		if base, _ := rollup.Find(totals, a.Code); !a.Post && ofKids(a.Code).Cmp(big.NewInt(int64(base))) != 0 {
			t.Errorf("the total of %s is %d, and those of its children add up to %v", a.Code, base, ofKids(a.Code))
		}
	}
	all := new(big.Int)
	for _, x := range l {
		all.Add(all, big.NewInt(int64(x.Base)))
	}
	if ofKids("").Cmp(all) != 0 {
		t.Errorf("the totals of the roots add up to %v, and the cells to %v", ofKids(""), all)
	}
}
