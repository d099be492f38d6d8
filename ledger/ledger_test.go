package ledger_test

import (
	"cmp"
	"math"
	"math/rand"
	"reflect"
	"slices"
	"strconv"
	"strings"
	"testing"

	"accounting/api"
	"accounting/dims"
	"accounting/ledger"
	"accounting/sheet"
)

const most, least = math.MaxInt, math.MinInt

// always selects the entries of all days.
var always = api.Query{To: api.MaxDay, Book: api.MaxDay}

// line returns a line in EUR with equal Amount and Base.
func line(account string, amount int) api.Line {
	return api.Line{Account: account, Cur: "EUR", Amount: amount, Base: amount}
}

// sale returns an entry of the entity a.
func sale(no, book, value, amount int) api.Entry {
	return api.Entry{No: no, Entity: "a", Book: book, Value: value, Kind: api.Normal, By: "u", Lines: []api.Line{line("10", amount), line("40", -amount)}}
}

// of returns an entry of another entity.
func of(entity string, x api.Entry) api.Entry {
	x.Entity = entity
	return x
}

// cell returns a cell of the entity a in EUR with equal Amount and Base.
func cell(account string, amount int) api.Cell {
	return api.Cell{Key: api.Key{Entity: "a", Account: account, Cur: "EUR"}, Amount: amount, Base: amount}
}

// build returns a ledger with these entries.
func build(t *testing.T, l ...api.Entry) *ledger.Ledger {
	t.Helper()
	g := ledger.New()
	for _, x := range l {
		if e := g.Post(x); e != api.OK {
			t.Fatalf("Post(%v) = %d", x, e)
		}
	}
	return g
}

// large returns an entry that adds 50 times MaxAmount to account 10, and as much with the other sign to account 40.
func large(no int) api.Entry {
	x := sale(no, 1, no, api.MaxAmount)
	for len(x.Lines) < api.MaxLines {
		x.Lines = append(x.Lines, x.Lines[:2]...)
	}
	return x
}

// want fails unless a call returned this sheet and this error.
func want(t *testing.T, wanted []api.Cell, wantedE api.Errno) func(s []api.Cell, e api.Errno) {
	t.Helper()
	return func(s []api.Cell, e api.Errno) {
		t.Helper()
		if !slices.Equal(s, wanted) || e != wantedE {
			t.Errorf("the sheet is %v, %d, want %v, %d", s, e, wanted, wantedE)
		}
	}
}

// P20.2, P20.3: the chapter's examples.
func TestExamples(t *testing.T) {
	g := build(t, sale(1, 100, 90, 5), sale(2, 110, 80, 7))
	if a, b := g.Post(sale(3, 109, 90, 1)), g.Post(sale(4, 110, 90, 1)); a != api.ErrOrder || b != api.ErrOrder || g.Len() != 2 {
		t.Errorf("Post returns %d, %d", a, b)
	}
	want(t, []api.Cell{cell("10", 5), cell("40", -5)}, api.OK)(g.Sheet(api.Query{To: 90, Book: 100}))
	want(t, []api.Cell{cell("10", 7), cell("40", -7)}, api.OK)(g.Sheet(api.Query{To: 85, Book: 110}))
	want(t, nil, api.OK)(g.Sheet(api.Query{Entity: "b", To: 90, Book: 110}))
	if l := g.Find(always, api.Key{Account: "10"}); !slices.Equal(l, []int{1, 2}) {
		t.Errorf("Find(10) = %v", l)
	}
	if l := g.Find(api.Query{From: 85, To: 200, Book: 200}, api.Key{Account: "40"}); !slices.Equal(l, []int{1}) {
		t.Errorf("Find(40) = %v", l)
	}
}

// P20.1: the fields of a key, and lines that are combined or cancel out.
func TestCells(t *testing.T) {
	full := api.Line{Account: "16", Cur: "USD", Amount: 3, Base: 4, Partner: "b", Party: "p", Tags: []api.Tag{{Name: "dept", Value: "x"}, {Name: "proj", Value: "7"}}}
	back := full
	back.Amount, back.Base, back.Party, back.Tags = -3, -4, "", nil
	other := full
	other.Party = "q"
	key := api.Key{Entity: "a", Account: "16", Cur: "USD", Partner: "b", Tags: "dept=x,proj=7"}
	plain := api.Key{Entity: "a", Account: "16", Cur: "USD", Partner: "b"}
	for i, c := range []struct {
		lines []api.Line
		cells []api.Cell
	}{
		{[]api.Line{line("40", -5), line("10", 5)}, []api.Cell{cell("10", 5), cell("40", -5)}},
		{[]api.Line{full, back}, []api.Cell{{Key: plain, Amount: -3, Base: -4}, {Key: key, Amount: 3, Base: 4}}},
		// The Party does not belong to the key.
		{[]api.Line{full, other, back, back}, []api.Cell{{Key: plain, Amount: -6, Base: -8}, {Key: key, Amount: 6, Base: 8}}},
		{[]api.Line{line("10", 5), line("10", 2), line("10", -7)}, nil},
		{[]api.Line{line("10", 5), line("10", -5), line("40", 1), line("50", -1)}, []api.Cell{cell("40", 1), cell("50", -1)}},
	} {
		x := sale(0, 1, 1, 1)
		x.Lines = c.lines
		given := slices.Clone(c.lines)
		s, e := ledger.Cells(x)
		if !slices.Equal(s, c.cells) || e != api.OK {
			t.Errorf("case %d: Cells(%v) = %v, %d, want %v", i, x, s, e, c.cells)
		}
		clear(s)
		if !reflect.DeepEqual(x.Lines, given) {
			t.Errorf("case %d: Cells changed the lines to %v", i, x.Lines)
		}
	}
	want(t, []api.Cell{cell("10", 50*api.MaxAmount), cell("40", -50*api.MaxAmount)}, api.OK)(ledger.Cells(large(0)))
}

// wrongEntries are changes of an entry that lead to the errors of entry's Check.
func wrongEntries() []struct {
	e      api.Errno
	change func(x *api.Entry)
} {
	return []struct {
		e      api.Errno
		change func(x *api.Entry)
	}{
		{api.ErrRange, func(x *api.Entry) { x.No = -1 }}, {api.ErrRange, func(x *api.Entry) { x.No = 4001 }}, {api.ErrRange, func(x *api.Entry) { x.Reverses = least }}, {api.ErrName, func(x *api.Entry) { x.Entity = "" }}, {api.ErrName, func(x *api.Entry) { x.By = "a b" }}, {api.ErrDate, func(x *api.Entry) { x.Book = -1 }}, {api.ErrDate, func(x *api.Entry) { x.Value = most }}, {api.ErrKind, func(x *api.Entry) { x.Kind = 8 }}, {api.ErrForm, func(x *api.Entry) { x.Ref = strings.Repeat("r", 61) }},
		{api.ErrArg, func(x *api.Entry) { x.Lines = nil }}, {api.ErrMany, func(x *api.Entry) { x.Lines = make([]api.Line, 101) }}, {api.ErrName, func(x *api.Entry) { x.Lines[1].Account = "" }}, {api.ErrCur, func(x *api.Entry) { x.Lines[0].Cur = "E" }}, {api.ErrOver, func(x *api.Entry) { x.Lines[0].Amount = most }}, {api.ErrTag, func(x *api.Entry) { x.Lines[0].Tags = make([]api.Tag, 1) }}, {api.ErrBalance, func(x *api.Entry) { x.Lines[0].Amount++ }},
	}
}

// P20.1, P20.2: the errors of entry's Check.
func TestWrongEntries(t *testing.T) {
	for i, c := range wrongEntries() {
		x := sale(2, 100, 100, 5)
		c.change(&x)
		if s, e := ledger.Cells(x); len(s) != 0 || e != c.e {
			t.Errorf("case %d: Cells(%v) = %v, %d, want %d", i, x, s, e, c.e)
		}
		good, worse := sale(1, 100, 100, 5), api.Entry{Kind: -1}
		for _, q := range []api.Query{always, {}, {Entity: "other", From: 1}} {
			if s, e := ledger.Replay([]api.Entry{good, x, worse}, q); len(s) != 0 || e != c.e {
				t.Errorf("case %d: Replay with %v = %v, %d, want %d", i, x, s, e, c.e)
			}
		}
		g := build(t, good)
		if e := g.Post(x); e != c.e || g.Len() != 1 {
			t.Errorf("case %d: Post(%v) = %d, want %d", i, x, e, c.e)
		}
		// The errors of an entry come before that of its place.
		x.Book = min(x.Book, 50)
		if e := g.Post(x); e != c.e || g.Len() != 1 {
			t.Errorf("case %d: Post(%v) = %d, want %d", i, x, e, c.e)
		}
		want(t, []api.Cell{cell("10", 5), cell("40", -5)}, api.OK)(g.Sheet(always))
	}
}

// P20.1, P20.3: sums beyond the limit.
func TestOver(t *testing.T) {
	var l []api.Entry
	for no := 1; no <= 21; no++ {
		l = append(l, large(no))
	}
	g := build(t, l...)
	atLimit := []api.Cell{cell("10", api.MaxSum), cell("40", -api.MaxSum)}
	for _, q := range []api.Query{{To: 20, Book: 1}, {From: 2, To: 21, Book: 1}} {
		want(t, atLimit, api.OK)(g.Sheet(q))
		want(t, atLimit, api.OK)(ledger.Replay(l, q))
	}
	want(t, nil, api.ErrOver)(g.Sheet(always))
	want(t, nil, api.ErrOver)(ledger.Replay(l, always))
	want(t, nil, api.ErrName)(ledger.Replay(append(slices.Clone(l), of("", large(22))), always))
	if nos := g.Find(always, api.Key{Account: "10"}); len(nos) != 21 {
		t.Errorf("Find = %v", nos)
	}
	// What is selected counts, and what remains when all of it has been added.
	back := large(22)
	for i := range back.Lines {
		back.Lines[i].Amount, back.Lines[i].Base = -back.Lines[i].Amount, -back.Lines[i].Base
	}
	if e := g.Post(back); e != api.OK {
		t.Fatal(e)
	}
	want(t, atLimit, api.OK)(g.Sheet(always))
}

// P20.2
func TestPost(t *testing.T) {
	g := ledger.New()
	if g == nil || g.Len() != 0 {
		t.Fatalf("New() = %v", g)
	}
	want(t, nil, api.OK)(g.Sheet(always))
	for i, c := range []struct {
		x api.Entry
		e api.Errno
	}{
		{sale(0, 100, 90, 5), api.ErrOrder}, {sale(2, 100, 90, 5), api.ErrOrder}, {sale(1, 0, 90, 5), api.OK}, {sale(1, 0, 90, 5), api.ErrOrder}, {of("b", sale(2, 100, 0, 5)), api.OK}, {sale(3, 99, 90, 5), api.ErrOrder}, {of("b", sale(3, 0, 90, 5)), api.ErrOrder}, {sale(4, 100, 90, 5), api.ErrOrder}, {sale(2, 99, 90, 5), api.ErrOrder}, {sale(3, 100, 90, 5), api.OK}, {sale(4, api.MaxDay, 90, 5), api.OK}, {sale(5, api.MaxDay-1, 90, 5), api.ErrOrder}, {of("c", sale(5, api.MaxDay, 90, 5)), api.OK},
	} {
		n := g.Len()
		if c.e == api.OK {
			n++
		}
		if e := g.Post(c.x); e != c.e || g.Len() != n {
			t.Errorf("case %d: Post(%v) = %d, Len() = %d, want %d, %d", i, c.x, e, g.Len(), c.e, n)
		}
	}
}

// P20.2: a full ledger accepts no number.
func TestFullLedger(t *testing.T) {
	g := ledger.New()
	for no := 1; no <= api.MaxEntries; no++ {
		if e := g.Post(sale(no, 7, no, 1)); e != api.OK {
			t.Fatalf("Post of entry %d returns %d", no, e)
		}
	}
	for no, e := range map[int]api.Errno{api.MaxEntries + 1: api.ErrRange, api.MaxEntries: api.ErrOrder, 1: api.ErrOrder, 0: api.ErrOrder} {
		if f := g.Post(sale(no, 7, 1, 1)); f != e || g.Len() != api.MaxEntries {
			t.Errorf("Post of entry %d returns %d, want %d", no, f, e)
		}
	}
	want(t, []api.Cell{cell("10", api.MaxEntries), cell("40", -api.MaxEntries)}, api.OK)(g.Sheet(always))
	if nos := g.Find(api.Query{From: 3999, To: 5000, Book: 7}, api.Key{}); !slices.Equal(nos, []int{3999, 4000}) {
		t.Errorf("Find = %v", nos)
	}
}

// P20.2, P20.3
func TestNilLedger(t *testing.T) {
	var g *ledger.Ledger
	if a, b := g.Post(sale(1, 1, 1, 1)), g.Post(api.Entry{}); a != api.ErrNone || b != api.ErrNone || g.Len() != 0 || len(g.Find(always, api.Key{})) != 0 {
		t.Errorf("Post returns %d, %d, Len() = %d, Find = %v", a, b, g.Len(), g.Find(always, api.Key{}))
	}
	want(t, nil, api.OK)(g.Sheet(always))
	want(t, nil, api.OK)(g.Sheet(api.Query{}))
}

// P20.1, P20.3: the ends of the ranges of days, and days beyond all of them.
func TestSelection(t *testing.T) {
	l := []api.Entry{sale(1, 100, 90, 1), sale(2, 100, 80, 2), of("b", sale(3, 110, 85, 4)), sale(4, 120, 85, 8)}
	g := build(t, l...)
	for _, c := range []struct {
		q    api.Query
		mask int // of the amounts of the entries
	}{
		{always, 15}, {api.Query{From: least, To: most, Book: most}, 15}, {api.Query{Entity: "a", From: least, To: most, Book: most}, 11}, {api.Query{Entity: "b", To: most, Book: most}, 4}, {api.Query{Entity: "c", To: most, Book: most}, 0}, {api.Query{Entity: "A", To: most, Book: most}, 0}, {api.Query{Entity: "a b", To: most, Book: most}, 0},
		{api.Query{From: 80, To: 90, Book: 120}, 15}, {api.Query{From: 81, To: 90, Book: 120}, 13}, {api.Query{From: 80, To: 89, Book: 120}, 14}, {api.Query{From: 85, To: 85, Book: 120}, 12}, {api.Query{From: 86, To: 85, Book: 120}, 0}, {api.Query{From: 90, To: 80, Book: 120}, 0}, {api.Query{From: most, To: least, Book: most}, 0}, {api.Query{From: 91, To: most, Book: most}, 0}, {api.Query{From: least, To: 79, Book: most}, 0},
		{api.Query{To: 90, Book: 119}, 7}, {api.Query{To: 90, Book: 110}, 7}, {api.Query{To: 90, Book: 109}, 3}, {api.Query{To: 90, Book: 100}, 3}, {api.Query{To: 90, Book: 99}, 0}, {api.Query{To: 90, Book: least}, 0}, {api.Query{Entity: "a", From: 85, To: 85, Book: 119}, 0}, {api.Query{}, 0},
	} {
		var nos []int
		var cells []api.Cell
		for i, x := range l {
			if c.mask&(1<<i) != 0 {
				nos = append(nos, x.No)
				one, _ := ledger.Cells(x)
				cells, _ = sheet.Add(cells, one)
			}
		}
		want(t, cells, api.OK)(g.Sheet(c.q))
		want(t, cells, api.OK)(ledger.Replay(l, c.q))
		if found := g.Find(c.q, api.Key{}); !slices.Equal(found, nos) {
			t.Errorf("Find(%v) = %v, want %v", c.q, found, nos)
		}
	}
}

// P20.1: Replay accepts entries in any order and with any numbers.
func TestReplayOfAnyEntries(t *testing.T) {
	l := []api.Entry{sale(7, 100, 90, 1), sale(7, 50, 90, 2), sale(0, 75, 90, 4)}
	want(t, []api.Cell{cell("10", 7), cell("40", -7)}, api.OK)(ledger.Replay(l, always))
	want(t, []api.Cell{cell("10", 6), cell("40", -6)}, api.OK)(ledger.Replay(l, api.Query{To: 90, Book: 75}))
	want(t, nil, api.OK)(ledger.Replay(nil, always))
}

// P20.3: a line counts, even if others cancel it out.
func TestFindCancelledLines(t *testing.T) {
	x := sale(1, 1, 1, 5)
	x.Lines = append(x.Lines, line("11", 3), line("11", -3))
	tagged := sale(2, 1, 1, 5)
	tagged.Lines[0].Tags = []api.Tag{{Name: "dept", Value: "x"}}
	tagged.Lines[1].Partner = "b"
	g := build(t, x, tagged)
	for _, c := range []struct {
		pattern api.Key
		nos     []int
	}{
		{api.Key{Account: "11"}, []int{1}}, {api.Key{Account: "10"}, []int{1, 2}}, {api.Key{Tags: "dept=x"}, []int{2}}, {api.Key{Partner: "b"}, []int{2}}, {api.Key{Partner: "b", Tags: "dept=x"}, nil}, {api.Key{Account: "40", Partner: "b"}, []int{2}}, {api.Key{Entity: "a"}, []int{1, 2}}, {api.Key{Entity: "b"}, nil}, {api.Key{Cur: "USD"}, nil}, {api.Key{Cur: "EUR"}, []int{1, 2}}, {api.Key{Tags: "dept"}, nil},
	} {
		if nos := g.Find(always, c.pattern); !slices.Equal(nos, c.nos) {
			t.Errorf("Find(%v) = %v, want %v", c.pattern, nos, c.nos)
		}
	}
}

// Rule 6: neither the arguments nor the results share memory with the ledger.
func TestMemory(t *testing.T) {
	x := sale(1, 1, 1, 5)
	x.Lines[0].Tags = []api.Tag{{Name: "dept", Value: "x"}}
	g := build(t, x)
	x.Lines[0].Tags[0].Value = "y"
	clear(x.Lines)
	tagged := cell("10", 5)
	tagged.Key.Tags = "dept=x"
	wanted := []api.Cell{tagged, cell("40", -5)}
	for range 2 {
		s, _ := g.Sheet(always)
		nos := g.Find(always, api.Key{})
		clear(s)
		clear(nos)
		_ = append(s[:0], cell("1", 1))
		want(t, wanted, api.OK)(g.Sheet(always))
		if nos := g.Find(always, api.Key{}); !slices.Equal(nos, []int{1}) {
			t.Errorf("Find = %v", nos)
		}
	}
}

// randomEntry returns a valid entry of a few days, accounts and tags.
func randomEntry(r *rand.Rand, no, book int) api.Entry {
	pick := func(l ...string) string { return l[r.Intn(len(l))] }
	x := api.Entry{No: no, Entity: pick("a", "b", "c"), Book: book, Value: 50 + r.Intn(30), Kind: 1 + r.Intn(7), By: "u"}
	for range 1 + r.Intn(3) {
		l := api.Line{Account: pick("10", "11", "40"), Cur: pick("EUR", "USD"), Amount: r.Intn(9) + 1, Base: r.Intn(9), Partner: pick("", "", "b"), Party: pick("", "p")}
		for i := range r.Intn(3) {
			l.Tags = append(l.Tags, api.Tag{Name: "t" + strconv.Itoa(i), Value: pick("x", "y")})
		}
		x.Lines = append(x.Lines, l, api.Line{Account: pick("10", "11", "40"), Cur: l.Cur, Amount: -l.Amount, Base: -l.Base})
	}
	return x
}

// selects reports whether a query selects an entry, as the chapter says.
func selects(q api.Query, x api.Entry) bool {
	return (q.Entity == "" || q.Entity == x.Entity) && x.Value >= q.From && x.Value <= q.To && x.Book <= q.Book
}

// keyOf returns the key of a line.
func keyOf(t *testing.T, x api.Entry, l api.Line) api.Key {
	t.Helper()
	tags, e := dims.Text(l.Tags)
	if e != api.OK {
		t.Fatal(e)
	}
	return api.Key{Entity: x.Entity, Account: l.Account, Cur: l.Cur, Partner: l.Partner, Tags: tags}
}

// balances returns the sheet of the entries that the query selects, without the help of package sheet.
func balances(t *testing.T, l []api.Entry, q api.Query) (s []api.Cell) {
	t.Helper()
	sums := map[api.Key]api.Cell{}
	for _, x := range l {
		for _, y := range x.Lines {
			if selects(q, x) {
				k := keyOf(t, x, y)
				sums[k] = api.Cell{Key: k, Amount: sums[k].Amount + y.Amount, Base: sums[k].Base + y.Base}
			}
		}
	}
	for _, c := range sums {
		if c.Amount != 0 || c.Base != 0 {
			s = append(s, c)
		}
	}
	slices.SortFunc(s, func(a, b api.Cell) int {
		return cmp.Or(cmp.Compare(a.Key.Entity, b.Key.Entity), cmp.Compare(a.Key.Account, b.Key.Account), cmp.Compare(a.Key.Cur, b.Key.Cur), cmp.Compare(a.Key.Partner, b.Key.Partner), cmp.Compare(a.Key.Tags, b.Key.Tags))
	})
	return s
}

// found returns what Find returns.
func found(t *testing.T, l []api.Entry, q api.Query, pattern api.Key) (nos []int) {
	t.Helper()
	for _, x := range l {
		matches := func(y api.Line) bool { return sheet.Match(pattern, keyOf(t, x, y)) }
		if selects(q, x) && slices.ContainsFunc(x.Lines, matches) {
			nos = append(nos, x.No)
		}
	}
	return nos
}

// randomQuery returns a query of a few days.
func randomQuery(r *rand.Rand) api.Query {
	return api.Query{Entity: []string{"", "", "a", "b", "d"}[r.Intn(5)], From: 48 + r.Intn(30), To: 55 + r.Intn(30), Book: 98 + r.Intn(30)}
}

// randomPattern returns a pattern with a few fields.
func randomPattern(r *rand.Rand) api.Key {
	pick := func(l ...string) string { return l[r.Intn(len(l))] }
	return api.Key{Entity: pick("", "", "a"), Account: pick("", "10", "11"), Cur: pick("", "", "USD"), Partner: pick("", "", "b"), Tags: pick("", "", "t0=x", "t0=x,t1=y")}
}

// P20.1 to P20.4: random entries and queries, compared with the model; divisions of the value days, and booking days that have passed.
func TestRandomLedgers(t *testing.T) {
	r := rand.New(rand.NewSource(20))
	cells, numbers := 0, 0
	for range 150 {
		g := ledger.New()
		var l []api.Entry
		book := 100
		for no := 1; no <= 25; no++ {
			book += r.Intn(3)
			x := randomEntry(r, no, book)
			before := randomQuery(r)
			before.Book = min(before.Book, book-1)
			past, _ := g.Sheet(before)
			pastNos := g.Find(before, api.Key{})
			if e := g.Post(x); e != api.OK {
				t.Fatalf("Post(%v) = %d", x, e)
			}
			l = append(l, x)
			if s, _ := g.Sheet(before); !slices.Equal(s, past) || !slices.Equal(g.Find(before, api.Key{}), pastNos) {
				t.Fatalf("the sheet for %v changed from %v to %v", before, past, s)
			}
		}
		for range 25 {
			q, pattern := randomQuery(r), randomPattern(r)
			wanted := balances(t, l, q)
			want(t, wanted, api.OK)(g.Sheet(q))
			want(t, wanted, api.OK)(ledger.Replay(l, q))
			nos := found(t, l, q, pattern)
			if got := g.Find(q, pattern); !slices.Equal(got, nos) {
				t.Fatalf("Find(%v, %v) = %v, want %v", q, pattern, got, nos)
			}
			cells, numbers = cells+len(wanted), numbers+len(nos)
			checkDivision(t, r, g, q)
		}
	}
	if cells < 10000 || numbers < 2000 {
		t.Errorf("there were only %d cells and %d numbers", cells, numbers)
	}
}

// checkDivision fails unless the sheet is the sum of those for a division of the value days into three parts, and balances.
func checkDivision(t *testing.T, r *rand.Rand, g *ledger.Ledger, q api.Query) {
	t.Helper()
	whole, _ := g.Sheet(q)
	cut := []int{q.From + r.Intn(20), q.From + r.Intn(40)}
	slices.Sort(cut)
	cut[0], cut[1] = min(cut[0], q.To), min(cut[1], q.To)
	var sum []api.Cell
	for _, days := range [][2]int{{q.From, cut[0]}, {cut[0] + 1, cut[1]}, {cut[1] + 1, q.To}} {
		part, e := g.Sheet(api.Query{Entity: q.Entity, From: days[0], To: days[1], Book: q.Book})
		if e != api.OK {
			t.Fatal(e)
		}
		sum, _ = sheet.Add(sum, part)
	}
	if q.From <= q.To && !slices.Equal(sum, whole) {
		t.Fatalf("the parts of %v divided at %v add up to %v, want %v", q, cut, sum, whole)
	}
	if folded, e := sheet.Fold(whole, api.ByEntity|api.ByCur); len(folded) != 0 || e != api.OK {
		t.Fatalf("the sheet for %v does not balance: %v", q, folded)
	}
}
