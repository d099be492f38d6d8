package closing_test

import (
	"cmp"
	"math"
	"math/rand"
	"reflect"
	"slices"
	"strconv"
	"strings"
	"testing"

	"accounting/api"
	"accounting/chart"
	"accounting/closing"
	"accounting/dims"
	"accounting/entry"
	"accounting/ledger"
	"accounting/rollup"
	"accounting/sheet"
)

const most, least = math.MaxInt, math.MinInt

// booked is the booking day of the chapter's examples, and silent the last day of 2025.
const booked, silent = 46100, 46020

// year is the calendar whose fiscal years are the calendar years.
var year = api.Calendar{First: 1}

// accounts returns a chart with the accounts of the chapter's examples and some others.
func accounts(t *testing.T) *chart.Chart {
	t.Helper()
	c, at, e := chart.New(
		api.Account{Code: "10", Kind: api.Asset, Post: true},
		api.Account{Code: "20", Kind: api.Liability, Post: true},
		api.Account{Code: "3", Kind: api.Equity},
		api.Account{Code: "30", Parent: "3", Kind: api.Equity, Post: true},
		api.Account{Code: "31", Parent: "3", Kind: api.Equity, Post: true, Cur: "USD", Need: []string{"dept"}},
		api.Account{Code: "4", Kind: api.Income},
		api.Account{Code: "40", Parent: "4", Kind: api.Income, Post: true},
		api.Account{Code: "41", Parent: "4", Kind: api.Income, Post: true},
		api.Account{Code: "50", Kind: api.Expense, Post: true},
	)
	if e != api.OK {
		t.Fatalf("chart.New returns %d, %d", at, e)
	}
	return c
}

// line returns a line in EUR with equal Amount and Base.
func line(account string, amount int) api.Line {
	return api.Line{Account: account, Cur: "EUR", Amount: amount, Base: amount}
}

// post returns an entry of the entity a.
func post(value int, l ...api.Line) api.Entry {
	return api.Entry{Entity: "a", Book: booked, Value: value, Kind: api.Normal, By: "u", Lines: l}
}

// sale returns an entry of the entity a with a debit of the account 10 and a credit of another one.
func sale(value int, account string, amount int) api.Entry {
	return post(value, line("10", amount), line(account, -amount))
}

// cell returns a cell of the entity a in EUR with equal Amount and Base.
func cell(account string, amount int) api.Cell {
	return api.Cell{Key: api.Key{Entity: "a", Account: account, Cur: "EUR"}, Amount: amount, Base: amount}
}

// copied returns entries that share no memory with l.
func copied(l []api.Entry) []api.Entry {
	l = slices.Clone(l)
	for i := range l {
		l[i].Lines = slices.Clone(l[i].Lines)
		for k := range l[i].Lines {
			l[i].Lines[k].Tags = slices.Clone(l[i].Lines[k].Tags)
		}
	}
	return l
}

// query is what Result and Entry are asked for.
type query struct {
	c          *chart.Chart
	cal        api.Calendar
	l          []api.Entry
	entity     string
	year, book int
	to, by     string
}

// result fails unless Result returns these cells and this error.
func (q query) result(t *testing.T, wanted []api.Cell, wantedE api.Errno) {
	t.Helper()
	given := copied(q.l)
	s, e := closing.Result(q.c, q.cal, q.l, q.entity, q.year, q.book)
	if !slices.Equal(s, wanted) || e != wantedE {
		t.Errorf("the result of %d is %v, %d, want %v, %d", q.year, s, e, wanted, wantedE)
	}
	clear(s)
	if !reflect.DeepEqual(q.l, given) {
		t.Errorf("Result changed its entries to %v", q.l)
	}
}

// entry fails unless Entry returns an entry with these lines on this value day, or this error.
func (q query) entry(t *testing.T, value int, lines []api.Line, wantedE api.Errno) {
	t.Helper()
	given := copied(q.l)
	x, e := closing.Entry(q.c, q.cal, q.l, q.entity, q.year, q.book, q.to, q.by)
	var wanted api.Entry
	if wantedE == api.OK {
		wanted = api.Entry{Entity: q.entity, Book: q.book, Value: value, Kind: api.YearEnd, By: q.by, Lines: lines}
	}
	if !entry.Same(x, wanted) || e != wantedE {
		t.Errorf("the entry of %d is %v, %d, want %v, %d", q.year, x, e, wanted, wantedE)
	}
	for _, l := range x.Lines {
		clear(l.Tags)
	}
	clear(x.Lines)
	if !reflect.DeepEqual(q.l, given) {
		t.Errorf("Entry changed its entries to %v", q.l)
	}
}

// example returns the question of the chapter's examples about 2025.
func example(t *testing.T) query {
	t.Helper()
	l := []api.Entry{sale(46000, "40", 9), sale(46010, "50", -4), sale(46021, "40", 100)}
	return query{c: accounts(t), cal: year, l: l, entity: "a", year: 2025, book: booked, to: "30", by: "u"}
}

// P23.1, P23.2: the chapter's examples.
func TestExamples(t *testing.T) {
	q := example(t)
	q.result(t, []api.Cell{cell("40", -9), cell("50", 4)}, api.OK)
	q.entry(t, silent, []api.Line{line("40", 9), line("50", -4), line("30", -5)}, api.OK)
	q.to = "10"
	q.entry(t, 0, nil, api.ErrAccount)
	q.to, q.year = "30", 2024
	q.result(t, nil, api.OK)
	q.entry(t, 0, nil, api.ErrState)
	q.year = 2200
	q.result(t, nil, api.ErrPeriod)
	q.entry(t, 0, nil, api.ErrPeriod)
}

// P23.1: which entries belong to the balances, and which balances to the result.
func TestResult(t *testing.T) {
	other := sale(46000, "40", 1000)
	other.Entity = "b"
	late := sale(46000, "41", 70)
	late.Book = booked + 1
	early := sale(0, "41", 2)
	early.Book = 0
	last, next := sale(silent, "50", 3), sale(silent+1, "50", 500)
	last.Kind, next.Kind = api.YearEnd, api.Opening
	q := example(t)
	q.l = []api.Entry{next, sale(46000, "40", 9), sale(46001, "20", 5), sale(46001, "30", 6), other, late, early, last}
	q.result(t, []api.Cell{cell("40", -9), cell("41", -2), cell("50", -3)}, api.OK)
	for _, c := range []struct {
		change func(q *query)
		cells  []api.Cell
	}{
		{func(q *query) { q.book = booked + 1 }, []api.Cell{cell("40", -9), cell("41", -72), cell("50", -3)}},
		{func(q *query) { q.book = most }, []api.Cell{cell("40", -9), cell("41", -72), cell("50", -3)}},
		{func(q *query) { q.book = booked - 1 }, []api.Cell{cell("41", -2)}},
		{func(q *query) { q.book = 0 }, []api.Cell{cell("41", -2)}},
		{func(q *query) { q.book = -1 }, nil},
		{func(q *query) { q.book = least }, nil},
		{func(q *query) { q.year = 2026 }, []api.Cell{cell("40", -9), cell("41", -2), cell("50", -503)}},
		{func(q *query) { q.year = 2199 }, []api.Cell{cell("40", -9), cell("41", -2), cell("50", -503)}},
		{func(q *query) { q.year = 2024 }, []api.Cell{cell("41", -2)}},
		{func(q *query) { q.year = 1900 }, []api.Cell{cell("41", -2)}},
		{func(q *query) { q.entity = "c" }, nil},
		{func(q *query) { q.l = nil }, nil},
		// Balances that are 0 are in no sheet.
		{func(q *query) { q.l = append(slices.Clone(q.l), sale(46000, "40", -9)) }, []api.Cell{cell("41", -2), cell("50", -3)}},
		// The fiscal year 2024 ends with March 2025.
		{func(q *query) { q.cal.First, q.year = 4, 2024 }, []api.Cell{cell("41", -2)}},
		{func(q *query) { q.cal.First = 4 }, []api.Cell{cell("40", -9), cell("41", -2), cell("50", -503)}},
		// An empty entity of a query means all of them.
		{func(q *query) { q.entity = "" }, []api.Cell{cell("40", -9), cell("41", -2), cell("50", -3), {Key: api.Key{Entity: "b", Account: "40", Cur: "EUR"}, Amount: -1000, Base: -1000}}},
	} {
		x := q
		c.change(&x)
		x.result(t, c.cells, api.OK)
	}
}

// P23.1, P23.2: the first and the last year of calendars.
func TestYears(t *testing.T) {
	for _, c := range []struct {
		first, year, day int
	}{
		{1, 1900, 364}, {1, 2199, api.MaxDay}, {2, 1900, 395}, {2, 2198, api.MaxDay - 334}, {12, 1900, 698},
	} {
		q := example(t)
		q.cal.First, q.year, q.book = c.first, c.year, api.MaxDay
		q.l = []api.Entry{sale(c.day, "40", 3)}
		q.result(t, []api.Cell{cell("40", -3)}, api.OK)
		q.entry(t, c.day, []api.Line{line("40", 3), line("30", -3)}, api.OK)
		if c.day < api.MaxDay {
			q.l = []api.Entry{sale(c.day+1, "40", 3)}
			q.result(t, nil, api.OK)
		}
	}
	for _, c := range [][2]int{{1, 1899}, {1, 2200}, {2, 1899}, {2, 2199}, {12, 2199}, {1, most}, {1, least}, {1, 0}} {
		q := example(t)
		q.cal.First, q.year = c[0], c[1]
		q.result(t, nil, api.ErrPeriod)
		q.entry(t, 0, nil, api.ErrPeriod)
	}
}

// P23.2: partners, tags, and several currencies, one of which has no sum, one no amount, and one no base.
func TestEntry(t *testing.T) {
	tags, _ := dims.Parse("dept=x,proj=7")
	in := func(cur, account, partner string, amount, base int, tags ...api.Tag) api.Line {
		return api.Line{Account: account, Cur: cur, Partner: partner, Amount: amount, Base: base, Tags: tags}
	}
	q := example(t)
	withParty := in("USD", "40", "b", -10, -9, tags...)
	withParty.Party = "p"
	q.l = []api.Entry{
		post(46000, in("USD", "10", "", 10, 9), withParty),
		post(46000, in("USD", "10", "", 20, 19), in("USD", "40", "", -20, -19, tags[1])),
		post(46000, in("EUR", "40", "", 5, 6), in("EUR", "50", "", -5, -6)),
		post(46000, in("CHF", "50", "", 4, 3), in("CHF", "50", "", -4, -2, tags[0]), in("CHF", "10", "", 0, -1)),
		post(46000, in("NOK", "41", "", 8, 1), in("NOK", "20", "", -8, -1)),
		post(46000, in("NOK", "40", "", 1, -1), in("NOK", "20", "", -1, 1)),
	}
	wanted := []api.Line{
		in("EUR", "40", "", -5, -6), in("NOK", "40", "", -1, 1), in("USD", "40", "", 20, 19, tags[1]), in("USD", "40", "b", 10, 9, tags...), in("NOK", "41", "", -8, -1),
		in("CHF", "50", "", -4, -3), in("CHF", "50", "", 4, 2, tags[0]), in("EUR", "50", "", 5, 6),
		in("CHF", "30", "", 0, 1), in("NOK", "30", "", 9, 0), in("USD", "30", "", -30, -28),
	}
	q.entry(t, silent, wanted, api.OK)
	// The rules of the chart for lines, such as that of account 31 for currencies and tags, do not apply.
	q.to, q.by = "31", "ann"
	for i := range wanted[8:] {
		wanted[8+i].Account = "31"
	}
	q.entry(t, silent, wanted, api.OK)
}

// P23.1, P23.2: the errors, in their order; each step takes away the first error that is left.
func TestErrors(t *testing.T) {
	both := func(q query, e api.Errno) {
		t.Helper()
		q.result(t, nil, e)
		q.entry(t, 0, nil, e)
	}
	unknown := post(46000, line("20", 1), line("60", -1))
	q := query{l: append(large(21), unknown, post(46000)), entity: "a", year: 2200, book: most, to: "10", by: ""}
	both(q, api.ErrNone)
	q.c = accounts(t)
	both(q, api.ErrArg)
	q.cal.First = 13
	both(q, api.ErrArg)
	q.cal.First = 1
	both(q, api.ErrPeriod)
	q.year = 2025
	both(q, api.ErrArg)
	q.l[len(q.l)-1].Lines = []api.Line{line("10", 1), line("10", -2)}
	both(q, api.ErrBalance)
	q.l = q.l[:len(q.l)-1]
	both(q, api.ErrOver)
	q.l = q.l[1:]
	both(q, api.ErrAccount)
	q.l = q.l[:len(q.l)-1]
	q.result(t, []api.Cell{cell("40", -api.MaxSum)}, api.OK)
	q.entry(t, 0, nil, api.ErrAccount)
	q.to = "30"
	q.entry(t, 0, nil, api.ErrName)
	q.by = "u"
	q.entry(t, 0, nil, api.ErrDate)
	q.book = api.MaxDay
	q.entry(t, 0, nil, api.ErrOver)
	q.l = q.l[:1]
	q.entry(t, 0, nil, api.ErrOver)
	q.l = []api.Entry{sale(46000, "40", 1)}
	q.entry(t, silent, []api.Line{line("40", 1), line("30", -1)}, api.OK)
	q.l = nil
	q.to, q.by, q.entity = "10", "", ""
	q.entry(t, 0, nil, api.ErrAccount)
	q.to = "30"
	q.entry(t, 0, nil, api.ErrState)
}

// large returns n entries, each of which adds 50 times MaxAmount to the account 10 and takes as much from 40.
func large(n int) (l []api.Entry) {
	x := sale(46000, "40", api.MaxAmount)
	for len(x.Lines) < api.MaxLines {
		x.Lines = append(x.Lines, x.Lines[:2]...)
	}
	return slices.Repeat([]api.Entry{x}, n)
}

// P23.1: accounts that cannot be posted to matter where the balances have them.
func TestAccounts(t *testing.T) {
	for _, account := range []string{"60", "4", "3", "x"} {
		q := example(t)
		q.l = []api.Entry{sale(46000, "40", 5), sale(46000, account, 3)}
		q.result(t, nil, api.ErrAccount)
		q.entry(t, 0, nil, api.ErrAccount)
		other := sale(46000, account, 3)
		other.Entity = "b"
		late := sale(46000, account, 3)
		late.Book++
		for _, x := range []api.Entry{other, late, sale(silent+1, account, 3)} {
			q.l[1] = x
			q.result(t, []api.Cell{cell("40", -5)}, api.OK)
		}
		q.l = []api.Entry{sale(46000, "40", 5), sale(46000, account, 3), sale(46000, account, -3)}
		q.result(t, []api.Cell{cell("40", -5)}, api.OK)
	}
	for to, e := range map[string]api.Errno{"": api.ErrAccount, "x": api.ErrAccount, "3": api.ErrAccount, "10": api.ErrAccount, "20": api.ErrAccount, "40": api.ErrAccount, "50": api.ErrAccount, "30": api.OK, "31": api.OK} {
		q := example(t)
		q.to = to
		q.entry(t, silent, []api.Line{line("40", 9), line("50", -4), line(to, -5)}, e)
	}
}

// P23.2: the errors of entry's Check.
func TestCheck(t *testing.T) {
	for i, c := range []struct {
		e      api.Errno
		change func(q *query)
	}{
		{api.ErrName, func(q *query) { q.entity = "" }}, {api.ErrName, func(q *query) { q.by = "" }}, {api.ErrName, func(q *query) { q.by = "a b" }}, {api.ErrDate, func(q *query) { q.book = api.MaxDay + 1 }}, {api.ErrDate, func(q *query) { q.book = most }},
		{api.ErrMany, func(q *query) { q.l = many(100, 1) }}, {api.ErrMany, func(q *query) { q.l = many(3000, api.MaxAmount) }},
		{api.ErrOver, func(q *query) { q.l = []api.Entry{sale(46000, "40", api.MaxAmount), sale(46000, "40", 1)} }},
		{api.ErrOver, func(q *query) { q.l = []api.Entry{sale(46000, "40", api.MaxAmount), sale(46000, "41", 1)} }},
	} {
		q := example(t)
		c.change(&q)
		q.entry(t, 0, nil, c.e)
		if t.Failed() {
			t.Fatalf("case %d", i)
		}
	}
	q := example(t)
	q.l = many(99, 1)
	var lines []api.Line
	for i := range 99 {
		lines = append(lines, tagged("40", i, 1))
	}
	q.entry(t, silent, append(lines, line("30", -99)), api.OK)
	q.l = []api.Entry{sale(46000, "40", api.MaxAmount)}
	q.entry(t, silent, []api.Line{line("40", api.MaxAmount), line("30", -api.MaxAmount)}, api.OK)
	q.l = []api.Entry{sale(46000, "40", api.MaxAmount), sale(46000, "41", 1), sale(46000, "50", -1)}
	q.entry(t, silent, []api.Line{line("40", api.MaxAmount), line("41", 1), line("50", -1), line("30", -api.MaxAmount)}, api.OK)
}

// tagged returns a line with a tag of its own.
func tagged(account string, i, amount int) api.Line {
	l := line(account, amount)
	l.Tags = []api.Tag{{Name: "no", Value: strconv.Itoa(100000 + i)}}
	return l
}

// many returns entries with n lines of the account 40 that have different tags.
func many(n, amount int) (l []api.Entry) {
	for i := range n {
		// Without a tag, the balance of the account 10 would be too large.
		l = append(l, post(46000, tagged("10", i, amount), tagged("40", i, -amount)))
	}
	return l
}

// P23.1: the errors of entry's Check for entries that the query does not select.
func TestWrongEntries(t *testing.T) {
	for i, c := range []struct {
		e      api.Errno
		change func(x *api.Entry)
	}{
		{api.ErrRange, func(x *api.Entry) { x.No = 4001 }}, {api.ErrName, func(x *api.Entry) { x.By = "" }}, {api.ErrDate, func(x *api.Entry) { x.Value = -1 }}, {api.ErrKind, func(x *api.Entry) { x.Kind = 8 }}, {api.ErrForm, func(x *api.Entry) { x.Ref = strings.Repeat("r", 61) }},
		{api.ErrArg, func(x *api.Entry) { x.Lines = nil }}, {api.ErrMany, func(x *api.Entry) { x.Lines = make([]api.Line, 101) }}, {api.ErrCur, func(x *api.Entry) { x.Lines[0].Cur = "E" }}, {api.ErrOver, func(x *api.Entry) { x.Lines[0].Base = least }}, {api.ErrTag, func(x *api.Entry) { x.Lines[0].Tags = make([]api.Tag, 1) }}, {api.ErrBalance, func(x *api.Entry) { x.Lines[0].Base++ }},
	} {
		q := example(t)
		x := sale(silent+1, "60", 1)
		x.Entity = "b"
		c.change(&x)
		q.l = append(q.l, x, api.Entry{Kind: -1})
		q.result(t, nil, c.e)
		q.to = "10"
		q.entry(t, 0, nil, c.e)
		if t.Failed() {
			t.Fatalf("case %d", i)
		}
	}
}

// randomEntries returns valid entries around the end of 2025.
func randomEntries(r *rand.Rand) (l []api.Entry) {
	codes := []string{"10", "20", "30", "31", "40", "41", "50"}
	for range r.Intn(8) {
		x := post(silent - 2 + r.Intn(4))
		x.Entity, x.Book, x.Kind = string("aab"[r.Intn(3)]), booked-1+r.Intn(3), 1+r.Intn(7)
		for range 1 + r.Intn(4) {
			a := line(codes[r.Intn(len(codes))], r.Intn(9)-4)
			a.Cur, a.Base, a.Partner = []string{"EUR", "USD"}[r.Intn(2)], r.Intn(4)+1, []string{"", "", "b"}[r.Intn(3)]
			a.Tags, _ = dims.Parse([]string{"", "", "dept=x", "dept=x,proj=y"}[r.Intn(4)])
			b := a
			b.Account, b.Amount, b.Base, b.Tags = codes[r.Intn(len(codes))], -a.Amount, -a.Base, nil
			x.Lines = append(x.Lines, a, b)
		}
		l = append(l, x)
	}
	return l
}

// model returns the result and the lines of the entry as P23.1 and P23.2 describe them.
func model(c *chart.Chart, l []api.Entry, to string) (result []api.Cell, lines []api.Line) {
	balances, _ := ledger.Replay(l, api.Query{Entity: "a", To: silent, Book: booked})
	for _, x := range balances {
		if c.Under(x.Key.Account, "4") || x.Key.Account == "50" {
			result = append(result, x)
			tags, _ := dims.Parse(x.Key.Tags)
			lines = append(lines, api.Line{Account: x.Key.Account, Cur: x.Key.Cur, Partner: x.Key.Partner, Tags: tags, Amount: -x.Amount, Base: -x.Base})
		}
	}
	sums, _ := sheet.Fold(result, api.ByCur)
	slices.SortFunc(sums, func(a, b api.Cell) int { return cmp.Compare(a.Key.Cur, b.Key.Cur) })
	for _, x := range sums {
		lines = append(lines, api.Line{Account: to, Cur: x.Key.Cur, Amount: x.Amount, Base: x.Base})
	}
	return result, lines
}

// P23.1, P23.2, P23.3: random entries, which are closed.
func TestRandom(t *testing.T) {
	r := rand.New(rand.NewSource(23))
	counts := map[api.Errno]int{}
	q := example(t)
	for range 8000 {
		q.l = randomEntries(r)
		result, lines := model(q.c, q.l, q.to)
		q.result(t, result, api.OK)
		e := api.OK
		if len(result) == 0 {
			e = api.ErrState
		}
		counts[e]++
		q.entry(t, silent, lines, e)
		if e == api.OK {
			checkClosed(t, q, result)
		}
		if t.Failed() {
			t.Fatalf("with the entries %v", q.l)
		}
	}
	if counts[api.OK] < 4000 || counts[api.ErrState] < 500 {
		t.Errorf("the errors occur so often: %v", counts)
	}
}

// checkClosed fails unless the result is empty once the entry has been added, and has been added to the account to.
func checkClosed(t *testing.T, q query, result []api.Cell) {
	t.Helper()
	base := func(l []api.Entry) int {
		balances, _ := ledger.Replay(l, api.Query{Entity: q.entity, To: silent, Book: q.book})
		totals, e := rollup.Of(q.c, balances)
		n, ok := rollup.Find(totals, q.to)
		if e != api.OK || !ok {
			t.Errorf("the total of %s is %d, %t, %d", q.to, n, ok, e)
		}
		return n
	}
	x, _ := closing.Entry(q.c, q.cal, q.l, q.entity, q.year, q.book, q.to, q.by)
	closed := q
	closed.l = append(slices.Clone(q.l), x)
	closed.result(t, nil, api.OK)
	closed.entry(t, 0, nil, api.ErrState)
	moved, e := sheet.Base(result)
	if base(closed.l)-base(q.l) != moved || e != api.OK {
		t.Errorf("the account %s changes by %d, and the result is %d, %d", q.to, base(closed.l)-base(q.l), moved, e)
	}
}
