package trial_test

import (
	"math"
	"math/big"
	"math/rand"
	"reflect"
	"slices"
	"strconv"
	"strings"
	"testing"

	"accounting/api"
	"accounting/entry"
	"accounting/fiscal"
	"accounting/trial"
)

const most, least = math.MaxInt, math.MinInt

// Days of the year 2024 and the next one.
const (
	january  = 45290 // 1 January 2024
	february = 45321 // 1 February 2024
	silent   = 45655 // 31 December 2024
	newYear  = 45656 // 1 January 2025
)

// year is the calendar whose fiscal years are the calendar years.
var year = api.Calendar{First: 1}

// line returns a line in EUR with equal Amount and Base.
func line(account string, amount int) api.Line {
	return api.Line{Account: account, Cur: "EUR", Amount: amount, Base: amount}
}

// sale returns a normal entry of the entity a, booked on its value day.
func sale(value, amount int) api.Entry {
	return api.Entry{Entity: "a", Book: value, Value: value, Kind: api.Normal, By: "u", Lines: []api.Line{line("10", amount), line("40", -amount)}}
}

// with returns an entry with these lines.
func with(x api.Entry, l ...api.Line) api.Entry {
	x.Lines = l
	return x
}

// of returns an entry of another kind.
func of(kind int, x api.Entry) api.Entry {
	x.Kind = kind
	return x
}

// row returns a row in EUR with equal amounts and bases, which is complete.
func row(account string, open, debit, credit int) api.Row {
	end := open + debit - credit
	return api.Row{Account: account, Cur: "EUR", Open: open, OpenBase: open, Debit: debit, DebitBase: debit, Credit: credit, CreditBase: credit, Close: end, CloseBase: end}
}

// no returns a period of 2024.
func no(n int) api.Period {
	return api.Period{Year: 2024, No: n}
}

// copied returns entries that share no memory with l.
func copied(l []api.Entry) []api.Entry {
	l = slices.Clone(l)
	for i := range l {
		l[i].Lines = slices.Clone(l[i].Lines)
	}
	return l
}

// want fails unless Of returns these rows and this error.
func want(t *testing.T, c api.Calendar, l []api.Entry, entity string, p api.Period, book int, wanted []api.Row, wantedE api.Errno) {
	t.Helper()
	given := copied(l)
	rows, e := trial.Of(c, l, entity, p, book)
	if !slices.Equal(rows, wanted) || e != wantedE {
		t.Errorf("Of for %v of %s up to %d = %v, %d, want %v, %d", p, entity, book, rows, e, wanted, wantedE)
	}
	clear(rows)
	if !reflect.DeepEqual(l, given) {
		t.Errorf("Of changed its entries to %v", l)
	}
}

// P22.1, P22.2: the chapter's example.
func TestExample(t *testing.T) {
	l := []api.Entry{sale(january, 5), sale(february, 7)}
	rows := []api.Row{row("10", 5, 7, 0), row("40", -5, 0, 7)}
	want(t, year, l, "a", no(2), february, rows, api.OK)
	if sum, e := trial.Totals(rows); sum != (api.Row{DebitBase: 7, CreditBase: 7}) || e != api.OK {
		t.Errorf("Totals = %v, %d", sum, e)
	}
}

// P22.1: which entries count.
func TestSelection(t *testing.T) {
	other := sale(january, 1000)
	other.Entity = "b"
	late := sale(january, 70)
	late.Book = newYear
	l := []api.Entry{sale(february, 7), other, late, sale(january, 5), sale(january+30, 1), of(api.Reversal, sale(february, -2)), sale(newYear, 300)}
	for i, c := range []struct {
		entity string
		p      api.Period
		book   int
		rows   []api.Row
	}{
		{"a", no(1), january, []api.Row{row("10", 0, 5, 0), row("40", 0, 0, 5)}},
		{"a", no(1), january - 1, nil},
		{"a", no(1), least, nil},
		{"a", no(1), february, []api.Row{row("10", 0, 6, 0), row("40", 0, 0, 6)}},
		{"a", no(1), newYear, []api.Row{row("10", 0, 76, 0), row("40", 0, 0, 76)}},
		{"a", no(1), most, []api.Row{row("10", 0, 76, 0), row("40", 0, 0, 76)}},
		{"a", no(2), newYear - 1, []api.Row{row("10", 6, 7, 2), row("40", -6, 2, 7)}},
		{"a", no(2), newYear, []api.Row{row("10", 76, 7, 2), row("40", -76, 2, 7)}},
		{"a", no(3), newYear, []api.Row{row("10", 81, 0, 0), row("40", -81, 0, 0)}},
		{"a", api.Period{Year: 2025, No: 1}, newYear, []api.Row{row("10", 81, 300, 0), row("40", -81, 0, 300)}},
		{"a", api.Period{Year: 2199, No: 13}, newYear, []api.Row{row("10", 381, 0, 0), row("40", -381, 0, 0)}},
		{"a", api.Period{Year: 2023, No: 13}, newYear, nil},
		{"a", api.Period{Year: 1900, No: 1}, newYear, nil},
		{"b", no(1), newYear, []api.Row{row("10", 0, 1000, 0), row("40", 0, 0, 1000)}},
		{"c", no(1), newYear, nil},
		// No entry has this entity.
		{"", no(1), newYear, nil},
	} {
		t.Run(strconv.Itoa(i), func(t *testing.T) { want(t, year, l, c.entity, c.p, c.book, c.rows, api.OK) })
	}
	want(t, year, nil, "a", no(1), newYear, nil, api.OK)
}

// P22.1: the last day of a year belongs to two periods, by the kind of the entry.
func TestKinds(t *testing.T) {
	for kind := api.Normal; kind <= api.Recost; kind++ {
		last := 12
		if kind == api.Adjust || kind == api.YearEnd {
			last = 13
		}
		for _, c := range []struct {
			value int
			p     api.Period
		}{
			{silent, no(last)}, {silent - 1, no(12)}, {newYear, api.Period{Year: 2025, No: 1}}, {january - 1, api.Period{Year: 2023, No: last}},
		} {
			l := []api.Entry{of(kind, sale(c.value, 3))}
			prev, _ := fiscal.Prev(year, c.p)
			next, _ := fiscal.Next(year, c.p)
			want(t, year, l, "a", prev, most, nil, api.OK)
			want(t, year, l, "a", c.p, most, []api.Row{row("10", 0, 3, 0), row("40", 0, 0, 3)}, api.OK)
			want(t, year, l, "a", next, most, []api.Row{row("10", 3, 0, 0), row("40", -3, 0, 0)}, api.OK)
		}
	}
	// With years from April on, the last day of the year is that of March.
	april, march := api.Calendar{First: 4}, 45380
	l := []api.Entry{of(api.Adjust, sale(march, 3)), sale(march, 4)}
	want(t, april, l, "a", api.Period{Year: 2023, No: 13}, most, []api.Row{row("10", 4, 3, 0), row("40", -4, 0, 3)}, api.OK)
	want(t, april, l, "a", no(1), most, []api.Row{row("10", 7, 0, 0), row("40", -7, 0, 0)}, api.OK)
}

// P22.1: the order of the rows, their sums, and rows without a balance.
func TestRows(t *testing.T) {
	x := with(sale(january, 1),
		api.Line{Account: "2", Cur: "USD", Amount: 10, Base: 9},
		api.Line{Account: "10", Cur: "USD", Amount: -4, Base: -3},
		api.Line{Account: "10", Cur: "USD", Amount: -6, Base: -6, Partner: "b", Party: "p", Tags: []api.Tag{{Name: "d", Value: "x"}}},
		api.Line{Account: "2", Cur: "EUR", Amount: 5, Base: 5},
		api.Line{Account: "10", Cur: "EUR", Amount: -5, Base: -5},
		api.Line{Account: "1", Cur: "EUR", Amount: 2, Base: -2},
		api.Line{Account: "1", Cur: "EUR", Amount: -2, Base: 2},
		api.Line{Account: "A", Cur: "CHF", Amount: 0, Base: 7},
		api.Line{Account: "a", Cur: "CHF", Amount: 0, Base: -7},
		api.Line{Account: "A", Cur: "EUR", Amount: 1, Base: 0},
		api.Line{Account: "A", Cur: "EUR", Amount: -1, Base: 0},
	)
	want(t, year, []api.Entry{x}, "a", no(1), most, []api.Row{
		{Account: "1", Cur: "EUR", Debit: 2, Credit: 2, DebitBase: 2, CreditBase: 2},
		{Account: "10", Cur: "EUR", Credit: 5, Close: -5, CreditBase: 5, CloseBase: -5},
		{Account: "10", Cur: "USD", Credit: 10, Close: -10, CreditBase: 9, CloseBase: -9},
		{Account: "2", Cur: "EUR", Debit: 5, Close: 5, DebitBase: 5, CloseBase: 5},
		{Account: "2", Cur: "USD", Debit: 10, Close: 10, DebitBase: 9, CloseBase: 9},
		{Account: "A", Cur: "CHF", DebitBase: 7, CloseBase: 7},
		{Account: "A", Cur: "EUR", Debit: 1, Credit: 1},
		{Account: "a", Cur: "CHF", CreditBase: 7, CloseBase: -7},
	}, api.OK)
	want(t, year, []api.Entry{x}, "a", no(2), most, []api.Row{
		{Account: "1", Cur: "EUR"},
		{Account: "10", Cur: "EUR", Open: -5, Close: -5, OpenBase: -5, CloseBase: -5},
		{Account: "10", Cur: "USD", Open: -10, Close: -10, OpenBase: -9, CloseBase: -9},
		{Account: "2", Cur: "EUR", Open: 5, Close: 5, OpenBase: 5, CloseBase: 5},
		{Account: "2", Cur: "USD", Open: 10, Close: 10, OpenBase: 9, CloseBase: 9},
		{Account: "A", Cur: "CHF", OpenBase: 7, CloseBase: 7},
		{Account: "A", Cur: "EUR"},
		{Account: "a", Cur: "CHF", OpenBase: -7, CloseBase: -7},
	}, api.OK)
}

// P22.1: the errors, in their order; each step takes away the first error that is left.
func TestErrors(t *testing.T) {
	april := api.Calendar{First: 4}
	l := full(21, 200)
	outside := sale(0, 1)
	other := sale(0, 1)
	other.Entity = "b"
	wrong, worse := of(8, sale(0, 1)), sale(-1, 1)
	wrong.Entity = "b"
	l = append(l, outside, other, wrong, worse)
	p := api.Period{Year: 1900, No: 14}
	want(t, api.Calendar{}, l, "a", p, most, nil, api.ErrArg)
	want(t, api.Calendar{First: 13}, l, "a", p, most, nil, api.ErrArg)
	want(t, april, l, "a", p, most, nil, api.ErrPeriod)
	for _, p := range []api.Period{{Year: 1900, No: 0}, {Year: 1899, No: 1}, {Year: 2199, No: 1}, {Year: 2200, No: 1}, {Year: most, No: most}, {}} {
		want(t, april, l, "a", p, most, nil, api.ErrPeriod)
	}
	p.No = 13
	want(t, april, l, "a", p, most, nil, api.ErrKind)
	l[len(l)-2] = worse
	want(t, april, l, "a", p, most, nil, api.ErrDate)
	l = l[:len(l)-2]
	want(t, april, l, "a", p, most, nil, api.ErrPeriod)
	// An entry that was booked too late has this error, too, and one of another entity does not.
	want(t, april, l, "a", p, -1, nil, api.ErrPeriod)
	want(t, april, l, "b", p, -1, nil, api.ErrPeriod)
	want(t, april, l, "c", p, most, nil, api.OK)
	l = slices.Delete(l, len(l)-2, len(l)-1)
	want(t, april, l, "b", p, most, nil, api.ErrPeriod)
	want(t, april, l, "a", p, most, nil, api.ErrOver)
	want(t, april, l, "a", p, -1, nil, api.OK)
}

// P22.1: the errors of entry's Check, for entries that do not count otherwise.
func TestWrongEntries(t *testing.T) {
	for i, c := range []struct {
		e      api.Errno
		change func(x *api.Entry)
	}{
		{api.ErrRange, func(x *api.Entry) { x.No = -1 }}, {api.ErrRange, func(x *api.Entry) { x.Reverses = most }}, {api.ErrName, func(x *api.Entry) { x.Entity = "" }}, {api.ErrName, func(x *api.Entry) { x.By = "a b" }}, {api.ErrDate, func(x *api.Entry) { x.Book = -1 }}, {api.ErrDate, func(x *api.Entry) { x.Value = most }}, {api.ErrKind, func(x *api.Entry) { x.Kind = 0 }}, {api.ErrForm, func(x *api.Entry) { x.Ref = strings.Repeat("r", 61) }},
		{api.ErrArg, func(x *api.Entry) { x.Lines = nil }}, {api.ErrMany, func(x *api.Entry) { x.Lines = make([]api.Line, 101) }}, {api.ErrName, func(x *api.Entry) { x.Lines[1].Account = "" }}, {api.ErrCur, func(x *api.Entry) { x.Lines[0].Cur = "E" }}, {api.ErrOver, func(x *api.Entry) { x.Lines[0].Amount = most }}, {api.ErrTag, func(x *api.Entry) { x.Lines[0].Tags = make([]api.Tag, 1) }}, {api.ErrBalance, func(x *api.Entry) { x.Lines[0].Amount++ }},
	} {
		x := sale(january, 1)
		c.change(&x)
		if _, e := entry.Check(x); e != c.e {
			t.Fatalf("case %d: Check returns %d", i, e)
		}
		for _, entity := range []string{"a", "b", ""} {
			want(t, year, []api.Entry{sale(january, 1), x, {Kind: -1}}, entity, no(1), -1, nil, c.e)
		}
	}
}

// full returns n entries with increasing value days from a day on, each of which adds 50 times MaxAmount to the account 10 in 50 lines, and takes as much from 40.
func full(n, from int) (l []api.Entry) {
	for i := range n {
		x := sale(from+i, api.MaxAmount)
		for len(x.Lines) < api.MaxLines {
			x.Lines = append(x.Lines, x.Lines[:2]...)
		}
		l = append(l, x)
	}
	return l
}

// scaled returns entries whose Amounts and Bases are multiplied by 1, 0 or -1.
func scaled(l []api.Entry, amount, base int) []api.Entry {
	l = copied(l)
	for _, x := range l {
		for i := range x.Lines {
			x.Lines[i].Amount *= amount
			x.Lines[i].Base *= base
		}
	}
	return l
}

// P22.1: sums at and beyond the limit, for amounts and bases, and for both sides.
func TestOver(t *testing.T) {
	const days = 20 // whose entries add up to MaxSum
	before, now, next := full(days, january), full(days, february), api.Period{Year: 2024, No: 3}
	for _, sign := range []int{1, -1} {
		for _, f := range [][2]int{{sign, sign}, {sign, 0}, {0, sign}} {
			over := func(l []api.Entry) []api.Entry {
				x := sale(l[0].Value, 1)
				return slices.Concat(scaled(l, f[0], f[1]), scaled([]api.Entry{x}, f[0], f[1]))
			}
			back := func(l []api.Entry) []api.Entry { return scaled(l, -f[0], -f[1]) }
			for i, c := range []struct {
				l []api.Entry
				p api.Period
				e api.Errno
			}{
				{scaled(now, f[0], f[1]), no(2), api.OK}, {over(now), no(2), api.ErrOver}, {over(now), no(1), api.OK}, {over(now), next, api.ErrOver},
				{scaled(before, f[0], f[1]), no(2), api.OK}, {over(before), no(2), api.ErrOver},
				// Debits and credits are added by themselves, and each of them counts.
				{slices.Concat(scaled(now, f[0], f[1]), back(now)), no(2), api.OK},
				{slices.Concat(over(now), back(now)), no(2), api.ErrOver},
				// What was before counts when all of it has been added.
				{slices.Concat(over(now), back(now)), next, api.OK},
				{slices.Concat(over(before), back(before), scaled(now, f[0], f[1])), no(2), api.ErrOver},
				// The closing balance is a sum, too.
				{slices.Concat(scaled(before, f[0], f[1]), scaled(now, f[0], f[1])), no(2), api.ErrOver},
				{slices.Concat(scaled(before, f[0], f[1]), back(now)), no(2), api.OK},
			} {
				if rows, e := trial.Of(year, c.l, "a", c.p, most); e != c.e || e != api.OK && len(rows) > 0 {
					t.Errorf("case %d with %v: Of = %v, %d, want %d", i, f, rows, e, c.e)
				}
			}
		}
	}
	want(t, year, before, "a", no(1), most, []api.Row{row("10", 0, api.MaxSum, 0), row("40", 0, 0, api.MaxSum)}, api.OK)
}

// P22.2
func TestTotals(t *testing.T) {
	a := api.Row{Account: "1", Cur: "EUR", Open: most, Debit: most, Credit: least, Close: least, OpenBase: 1, DebitBase: 20, CreditBase: 300, CloseBase: -4000}
	b := api.Row{OpenBase: -5, DebitBase: -60, CreditBase: 700, CloseBase: 8000, Open: most, Debit: 1, Credit: 2, Close: 3}
	for i, c := range []struct {
		rows []api.Row
		sum  api.Row
		e    api.Errno
	}{
		{nil, api.Row{}, api.OK},
		{[]api.Row{a}, api.Row{OpenBase: 1, DebitBase: 20, CreditBase: 300, CloseBase: -4000}, api.OK},
		{[]api.Row{a, b}, api.Row{OpenBase: -4, DebitBase: -40, CreditBase: 1000, CloseBase: 4000}, api.OK},
		{[]api.Row{b, a, a}, api.Row{OpenBase: -3, DebitBase: -20, CreditBase: 1300, CloseBase: 0}, api.OK},
	} {
		given := slices.Clone(c.rows)
		if sum, e := trial.Totals(c.rows); sum != c.sum || e != c.e || !slices.Equal(c.rows, given) {
			t.Errorf("case %d: Totals = %v, %d, want %v", i, sum, e, c.sum)
		}
	}
	for i, field := range []func(r *api.Row) *int{
		func(r *api.Row) *int { return &r.OpenBase }, func(r *api.Row) *int { return &r.DebitBase }, func(r *api.Row) *int { return &r.CreditBase }, func(r *api.Row) *int { return &r.CloseBase },
	} {
		for _, c := range []struct {
			values []int
			e      api.Errno
		}{
			{[]int{api.MaxSum}, api.OK}, {[]int{-api.MaxSum}, api.OK}, {[]int{api.MaxSum, 1}, api.ErrOver}, {[]int{-1, -api.MaxSum}, api.ErrOver}, {[]int{api.MaxSum, 1, -1}, api.OK},
			{[]int{most}, api.ErrOver}, {[]int{least}, api.ErrOver}, {[]int{least, least}, api.ErrOver}, {[]int{most, most, 2}, api.ErrOver},
			{[]int{most, most, -most, 5, -most}, api.OK}, {[]int{least, least, most, most, 2}, api.OK},
		} {
			rows := make([]api.Row, len(c.values))
			sum := 0
			for k, n := range c.values {
				*field(&rows[k]) = n
				sum += n
			}
			var wanted api.Row
			if c.e == api.OK {
				*field(&wanted) = sum
			}
			if got, e := trial.Totals(rows); got != wanted || e != c.e {
				t.Errorf("field %d: Totals of %v = %v, %d, want %v, %d", i, c.values, got, e, wanted, c.e)
			}
		}
	}
}

// P22.2
func TestNext(t *testing.T) {
	if l := trial.Next(nil); len(l) != 0 {
		t.Errorf("Next(nil) = %v", l)
	}
	rows := []api.Row{{Account: "9", Cur: "?", Open: 1, Debit: 2, Credit: 3, Close: most, OpenBase: 5, DebitBase: 6, CreditBase: 7, CloseBase: least}, row("10", 1, 2, 0), {}}
	given := slices.Clone(rows)
	next := trial.Next(rows)
	if !slices.Equal(next, []api.Row{{Account: "9", Cur: "?", Open: most, Close: most, OpenBase: least, CloseBase: least}, row("10", 3, 0, 0), {}}) {
		t.Errorf("Next = %v", next)
	}
	clear(next)
	if !slices.Equal(rows, given) {
		t.Errorf("Next changed its rows to %v", rows)
	}
}

// bigRow is a row with exact sums: of Open, Debit and Credit, and then of their Bases.
type bigRow [6]*big.Int

// model returns what P22.1 says of valid entries with periods.
func model(c api.Calendar, l []api.Entry, entity string, p api.Period, book int) (rows []api.Row, e api.Errno) {
	sums := map[[2]string]bigRow{}
	var keys [][2]string
	for _, x := range l {
		of, _ := fiscal.For(c, x.Value, x.Kind)
		if x.Entity != entity || x.Book > book || of.Year*20+of.No > p.Year*20+p.No {
			continue
		}
		for _, line := range x.Lines {
			key := [2]string{line.Account, line.Cur}
			if _, ok := sums[key]; !ok {
				sums[key] = bigRow{new(big.Int), new(big.Int), new(big.Int), new(big.Int), new(big.Int), new(big.Int)}
				keys = append(keys, key)
			}
			for i, n := range []int{line.Amount, line.Base} {
				sum := sums[key][3*i]
				switch {
				case of == p && n > 0:
					sum = sums[key][3*i+1]
				case of == p:
					sum, n = sums[key][3*i+2], -n
				}
				sum.Add(sum, big.NewInt(int64(n)))
			}
		}
	}
	slices.SortFunc(keys, func(a, b [2]string) int { return slices.Compare(a[:], b[:]) })
	for _, key := range keys {
		s := sums[key]
		end := func(i int) *big.Int { return new(big.Int).Sub(new(big.Int).Add(s[i], s[i+1]), s[i+2]) }
		for _, n := range append(s[:], end(0), end(3)) {
			if n.CmpAbs(big.NewInt(api.MaxSum)) > 0 {
				return nil, api.ErrOver
			}
		}
		n := func(x *big.Int) int { return int(x.Int64()) }
		rows = append(rows, api.Row{Account: key[0], Cur: key[1], Open: n(s[0]), Debit: n(s[1]), Credit: n(s[2]), Close: n(end(0)), OpenBase: n(s[3]), DebitBase: n(s[4]), CreditBase: n(s[5]), CloseBase: n(end(3))})
	}
	return rows, api.OK
}

// randomEntries returns valid entries around the end of 2024.
func randomEntries(r *rand.Rand) (l []api.Entry) {
	size, pairs, accounts, curs := 9, 6, []string{"1", "10", "2", "40"}, []string{"EUR", "USD", "CHF"}
	large := r.Intn(4) == 0
	if large {
		// Few rows and large entries, which are repeated, reach the limit.
		size, pairs, accounts, curs = api.MaxAmount, 50, accounts[:2], curs[:1]
	}
	for range r.Intn(12) {
		value := []int{january, february, silent - 1, silent, newYear, newYear + 40}[r.Intn(6)]
		x := api.Entry{Entity: string("aab"[r.Intn(3)]), Book: value + r.Intn(40), Value: value, Kind: 1 + r.Intn(7), By: "u"}
		for range 1 + r.Intn(pairs) {
			if !large {
				r.Shuffle(len(accounts), func(i, k int) { accounts[i], accounts[k] = accounts[k], accounts[i] })
			}
			a := api.Line{Account: accounts[0], Cur: curs[r.Intn(len(curs))], Amount: r.Intn(2*size+1) - size, Base: size - r.Intn(size/9)}
			b := a
			b.Account, b.Amount, b.Base = accounts[r.Intn(2)], -a.Amount, -a.Base
			x.Lines = append(x.Lines, a, b)
		}
		l = append(l, x)
		for large && r.Intn(50) > 0 {
			l = append(l, x)
		}
	}
	return l
}

// P22.1, P22.2, P22.3: random entries.
func TestRandom(t *testing.T) {
	r := rand.New(rand.NewSource(22))
	counts := map[api.Errno]int{}
	for range 1500 {
		l := randomEntries(r)
		c := api.Calendar{First: []int{1, 1, 2, 12}[r.Intn(4)]}
		p := api.Period{Year: 2023 + r.Intn(3), No: 1 + r.Intn(13)}
		book := []int{january + 20, silent, most}[r.Intn(3)]
		rows, e := model(c, l, "a", p, book)
		counts[e]++
		want(t, c, l, "a", p, book, rows, e)
		if e == api.OK && len(rows) > 0 {
			checkTotals(t, rows)
			checkNext(t, c, l, p, book, rows)
		}
		if t.Failed() {
			t.Fatalf("with the calendar %v", c)
		}
	}
	if counts[api.OK] < 500 || counts[api.ErrOver] < 50 {
		t.Errorf("the errors occur so often: %v", counts)
	}
}

// checkTotals fails unless a trial balance balances.
func checkTotals(t *testing.T, rows []api.Row) {
	t.Helper()
	sum, e := trial.Totals(rows)
	if e == api.ErrOver {
		return
	}
	if sum != (api.Row{DebitBase: sum.DebitBase, CreditBase: sum.DebitBase}) || e != api.OK {
		t.Errorf("the totals of %v are %v, %d", rows, sum, e)
	}
}

// checkNext fails unless the next trial balance begins with what Next returns, and with nothing in its other rows.
func checkNext(t *testing.T, c api.Calendar, l []api.Entry, p api.Period, book int, rows []api.Row) {
	t.Helper()
	p, _ = fiscal.Next(c, p)
	following, e := trial.Of(c, l, "a", p, book)
	if e != api.OK {
		return
	}
	var begins []api.Row
	for _, r := range following {
		r.Close, r.CloseBase = r.Open, r.OpenBase
		r.Debit, r.Credit, r.DebitBase, r.CreditBase = 0, 0, 0, 0
		begins = append(begins, r)
	}
	next := trial.Next(rows)
	for _, r := range begins {
		if !slices.ContainsFunc(next, func(x api.Row) bool { return x.Account == r.Account && x.Cur == r.Cur }) {
			next = append(next, api.Row{Account: r.Account, Cur: r.Cur})
		}
	}
	slices.SortFunc(next, func(a, b api.Row) int { return strings.Compare(a.Account+" "+a.Cur, b.Account+" "+b.Cur) })
	if !slices.Equal(begins, next) {
		t.Errorf("after %v the next period begins with %v", rows, begins)
	}
}
