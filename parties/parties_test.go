package parties_test

import (
	"math"
	"math/rand"
	"reflect"
	"slices"
	"testing"

	"accounting/api"
	"accounting/chart"
	"accounting/docs"
	"accounting/entry"
	"accounting/fx"
	"accounting/journal"
	"accounting/locks"
	"accounting/parties"
)

const most, least = math.MaxInt, math.MinInt

// newYear is 1 January 2026, and february the first day of the next period.
const newYear, february = 46021, 46052

// setup returns the setup of an entity in EUR, with the accounts of the chapter's examples.
func setup(entity string) api.Setup {
	return api.Setup{Entity: entity, Base: "EUR", Receivable: "12", Payable: "21", Gain: "41", Loss: "52", Codes: []api.TaxCode{{Name: "std", Account: "22", F: api.Frac{N: 1, D: 5}}}, Way: api.PerCode, Mode: api.Half}
}

// rates returns the table of the chapter's examples, with a second currency.
func rates(t *testing.T) *fx.Table {
	t.Helper()
	r, at, e := fx.New("EUR", api.Rate{Cur: "USD", Kind: api.Closing, Day: newYear, F: api.Frac{N: 9, D: 10}}, api.Rate{Cur: "USD", Kind: api.Closing, Day: 46030, F: api.Frac{N: 4, D: 5}}, api.Rate{Cur: "JPY", Kind: api.Closing, Day: newYear, F: api.Frac{N: 1, D: 150}})
	if e != api.OK {
		t.Fatalf("fx.New = %d, %d", at, e)
	}
	return r
}

// open returns an empty journal of the entities a and b that begins with January 2026, and its control.
func open(t *testing.T) (*journal.Journal, *locks.Locks) {
	t.Helper()
	var l []api.Account
	for code, kind := range map[string]int{"10": api.Asset, "12": api.Asset, "21": api.Liability, "22": api.Liability, "40": api.Income, "41": api.Income, "50": api.Expense, "52": api.Expense} {
		l = append(l, api.Account{Code: code, Kind: kind, Post: true})
	}
	l = append(l, api.Account{Code: "6", Kind: api.Expense}, api.Account{Code: "60", Kind: api.Expense, Post: true, Need: []string{"dept"}})
	c, at, e := chart.New(l...)
	if e != api.OK {
		t.Fatalf("chart.New = %d, %d", at, e)
	}
	k, e := locks.New(api.Calendar{First: 1}, api.Period{Year: 2026, No: 1}, "a", "b")
	if e != api.OK {
		t.Fatalf("locks.New = %d", e)
	}
	j, e := journal.New(c, k)
	if e != api.OK {
		t.Fatalf("journal.New = %d", e)
	}
	return j, k
}

// build returns an empty subledger of the entity a, its journal and the control of this.
func build(t *testing.T) (*parties.Sub, *journal.Journal, *locks.Locks) {
	t.Helper()
	j, k := open(t)
	b, e := parties.New(setup("a"), rates(t), j)
	if b == nil || e != api.OK {
		t.Fatalf("New = %v, %d", b, e)
	}
	return b, j, k
}

// doc returns a document in USD of the party p whose booking day is its value day. It has an amount and a line, of which its kind uses one.
func doc(kind, day, amount int) api.Doc {
	account := "40"
	if isPayable(kind) {
		account = "50"
	}
	return api.Doc{Kind: kind, Party: "p", Book: day, Value: day, Cur: "USD", Amount: amount, Bank: "10", Lines: []api.DocLine{{Account: account, Net: amount}}, By: "u"}
}

// of returns a document of another party and currency.
func of(party, cur string, d api.Doc) api.Doc {
	d.Party, d.Cur = party, cur
	return d
}

// isPayable tells which kinds of documents belong to the payables.
func isPayable(kind int) bool {
	return slices.Contains([]int{api.Purchase, api.PurchBack, api.PaymentOut}, kind)
}

// line returns a line in USD.
func line(account string, amount, base int) api.Line {
	return api.Line{Account: account, Cur: "USD", Amount: amount, Base: base}
}

// post fails unless Post returns these results.
func post(t *testing.T, b *parties.Sub, d api.Doc, no, id int, e api.Errno) {
	t.Helper()
	if n, i, f := b.Post(d); n != no || i != id || f != e {
		t.Fatalf("Post(%v) = %d, %d, %d, want %d, %d, %d", d, n, i, f, no, id, e)
	}
}

// settle fails unless Settle by u returns these results.
func settle(t *testing.T, b *parties.Sub, pos, neg, amount, day, no int, e api.Errno) {
	t.Helper()
	if n, f := b.Settle(pos, neg, amount, day, day, "u"); n != no || f != e {
		t.Fatalf("Settle(%d, %d, %d, %d) = %d, %d, want %d, %d", pos, neg, amount, day, n, f, no, e)
	}
}

// auto fails unless Auto by u returns these results.
func auto(t *testing.T, b *parties.Sub, party, cur string, pay bool, day, n int, e api.Errno) {
	t.Helper()
	if m, f := b.Auto(party, cur, pay, day, day, "u"); m != n || f != e {
		t.Fatalf("Auto(%q, %q, %v, %d) = %d, %d, want %d, %d", party, cur, pay, day, m, f, n, e)
	}
}

// wantLeft fails unless these amounts and bases are left of the items.
func wantLeft(t *testing.T, b *parties.Sub, pay bool, wanted ...[2]int) {
	t.Helper()
	for id := 1; id <= max(len(wanted), b.Len(pay)); id++ {
		amount, base := b.Left(pay, id)
		if id > len(wanted) || id > b.Len(pay) || wanted[id-1] != [2]int{amount, base} {
			t.Fatalf("%d, %d is left of item %d of %d (%v), want %v", amount, base, id, b.Len(pay), pay, wanted)
		}
	}
}

// wantControl fails unless both results of Control are n.
func wantControl(t *testing.T, b *parties.Sub, pay bool, n int) {
	t.Helper()
	if ledger, items := b.Control(pay); ledger != n || items != n {
		t.Fatalf("Control(%v) = %d, %d, want %d", pay, ledger, items, n)
	}
}

// wantLines fails unless the entry with this number has these lines.
func wantLines(t *testing.T, j *journal.Journal, no int, wanted ...api.Line) {
	t.Helper()
	if x, ok := j.Entry(no); !ok || !entry.Same(api.Entry{Lines: x.Lines}, api.Entry{Lines: wanted}) {
		t.Fatalf("entry %d is %v, want the lines %v", no, x, wanted)
	}
}

// places are parties and currencies, also unknown ones.
var places = [][2]string{{"p", "USD"}, {"p", "EUR"}, {"p", "JPY"}, {"q", "USD"}, {"q", "EUR"}, {"q", "JPY"}, {"", ""}, {"p", ""}, {"", "USD"}, {"x", "USD"}}

// view holds what can be seen of a subledger and its journal.
type view struct {
	items   [2][]api.OpenItem
	left    [2][][2]int
	open    [2][][]int
	control [2][2]int
	entries []api.Entry
}

// look returns what can be seen. Empty slices are nil.
func look(t *testing.T, b *parties.Sub, j *journal.Journal) (v view) {
	t.Helper()
	for n, pay := range []bool{false, true} {
		for id := 1; id <= b.Len(pay); id++ {
			i, ok := b.Item(pay, id)
			if !ok {
				t.Fatalf("there is no item %d of %d", id, b.Len(pay))
			}
			amount, base := b.Left(pay, id)
			v.items[n], v.left[n] = append(v.items[n], i), append(v.left[n], [2]int{amount, base})
		}
		for _, at := range places {
			v.open[n] = append(v.open[n], append([]int(nil), b.Open(pay, at[0], at[1])...))
		}
		v.control[n][0], v.control[n][1] = b.Control(pay)
	}
	v.entries = append(v.entries, j.All()...)
	return v
}

// unchanged fails unless a call that fails leaves everything as it was.
func unchanged(t *testing.T, b *parties.Sub, j *journal.Journal, call func()) {
	t.Helper()
	before := look(t, b, j)
	call()
	if after := look(t, b, j); !reflect.DeepEqual(after, before) {
		t.Fatalf("a failed call changed %v to %v", before, after)
	}
}

// P29.1 to P29.4: the chapter's examples.
func TestExamples(t *testing.T) {
	b, j, _ := build(t)
	post(t, b, doc(api.Sale, 46025, 100), 1, 1, api.OK)
	post(t, b, doc(api.PaymentIn, 46030, 60), 2, 2, api.OK)
	wantLeft(t, b, false, [2]int{100, 90}, [2]int{-60, -48})
	settle(t, b, 1, -2, 60, 46031, 0, api.ErrArg)
	settle(t, b, 1, 2, 60, 46031, 3, api.OK)
	control := line("12", 0, -6)
	control.Party = "p"
	x, _ := j.Entry(3)
	if wanted := (api.Entry{No: 3, Entity: "a", Book: 46031, Value: 46031, Kind: api.Normal, By: "u", Lines: []api.Line{control, line("52", 0, 6)}}); !entry.Same(x, wanted) {
		t.Errorf("entry 3 is %v, want %v", x, wanted)
	}
	wantLeft(t, b, false, [2]int{40, 36}, [2]int{0, 0})
	wantControl(t, b, false, 36)
}

// P29.1: an empty subledger, and the errors in their order.
func TestNew(t *testing.T) {
	j, _ := open(t)
	r := rates(t)
	dollars, _, _ := fx.New("USD")
	wrong := setup("a")
	wrong.Loss = ""
	other := setup("a")
	other.Base = "USD"
	for i, c := range []struct {
		s api.Setup
		t *fx.Table
		j *journal.Journal
		e api.Errno
	}{
		{setup("a"), r, j, api.OK}, {setup("x"), r, j, api.OK}, {other, dollars, j, api.OK},
		{wrong, r, j, api.ErrArg}, {wrong, nil, nil, api.ErrArg}, {wrong, dollars, j, api.ErrArg}, {api.Setup{}, r, j, api.ErrArg},
		{setup("a"), nil, j, api.ErrNone}, {setup("a"), r, nil, api.ErrNone}, {setup("a"), nil, nil, api.ErrNone}, {setup("a"), dollars, nil, api.ErrNone},
		{setup("a"), dollars, j, api.ErrCur}, {other, r, j, api.ErrCur},
	} {
		b, e := parties.New(c.s, c.t, c.j)
		if e != c.e || (b != nil) != (e == api.OK) {
			t.Errorf("case %d: New = %v, %d, want %d", i, b, e, c.e)
		}
		if e == api.OK {
			wantLeft(t, b, false)
			wantLeft(t, b, true)
			wantControl(t, b, false, 0)
			wantControl(t, b, true, 0)
		}
	}
}

// P29.1 to P29.4
func TestNilSubledger(t *testing.T) {
	var b *parties.Sub
	post(t, b, doc(api.Sale, newYear, 100), 0, 0, api.ErrNone)
	post(t, b, api.Doc{}, 0, 0, api.ErrNone)
	settle(t, b, 1, 2, 1, newYear, 0, api.ErrNone)
	settle(t, b, 0, 0, 0, -1, 0, api.ErrNone)
	for _, pay := range []bool{false, true} {
		auto(t, b, "p", "USD", pay, newYear, 0, api.ErrNone)
		wantLeft(t, b, pay)
		wantControl(t, b, pay, 0)
		if i, ok := b.Item(pay, 1); i != (api.OpenItem{}) || ok || len(b.Open(pay, "p", "USD")) != 0 {
			t.Error("a nil subledger has items")
		}
		if amount, base := b.Left(pay, 1); amount != 0 || base != 0 {
			t.Error("something is left")
		}
	}
}

// P29.1, P29.4: the entry and the item of each kind of documents, in the set to which it belongs.
func TestPost(t *testing.T) {
	b, j, _ := build(t)
	counts := map[bool]int{}
	for no, kind := range []int{api.Sale, api.Purchase, api.PaymentOut, api.SaleBack, api.PurchBack, api.PaymentIn, api.Sale, api.Purchase} {
		d := doc(kind, newYear+no, 100+no)
		d.Book, d.Ref, d.Lines[0].Code, d.Terms.Net = newYear+9, "r", "std", 21-3*no
		pay := isPayable(kind)
		counts[pay]++
		post(t, b, d, no+1, counts[pay], api.OK)
		x, item, e := docs.Make(setup("a"), rates(t), d)
		x.No = no + 1
		y, _ := j.Entry(no + 1)
		i, ok := b.Item(pay, counts[pay])
		if e != api.OK || !entry.Same(x, y) || i != item || !ok {
			t.Errorf("the entry and the item are %v, %v, %v, want %v, %v", y, i, ok, x, item)
		}
		if b.Len(false) != counts[false] || b.Len(true) != counts[true] {
			t.Errorf("Len = %d, %d, want %v", b.Len(false), b.Len(true), counts)
		}
	}
	wantLeft(t, b, false, [2]int{120, 108}, [2]int{-124, -112}, [2]int{-105, -95}, [2]int{127, 114})
	wantLeft(t, b, true, [2]int{-121, -109}, [2]int{102, 92}, [2]int{125, 113}, [2]int{-128, -115})
	// The receivables are due after 21, 15, 5 and 9 days, the payables after 19, 2, 13 and 7.
	for pay, ids := range map[bool][]int{false: {3, 4, 2, 1}, true: {2, 4, 3, 1}} {
		if l := b.Open(pay, "p", "USD"); !slices.Equal(l, ids) {
			t.Errorf("Open(%v) = %v, want %v", pay, l, ids)
		}
		for _, at := range [][2]string{{"", ""}, {"p", ""}, {"", "USD"}, {"q", "USD"}, {"p", "EUR"}} {
			if l := b.Open(pay, at[0], at[1]); len(l) != 0 {
				t.Errorf("Open(%v, %v) = %v", pay, at, l)
			}
		}
		for _, id := range []int{0, -1, 5, most, least} {
			amount, base := b.Left(pay, id)
			if i, ok := b.Item(pay, id); i != (api.OpenItem{}) || ok || amount != 0 || base != 0 {
				t.Errorf("item %d is %v, %v, of which %d, %d is left", id, i, ok, amount, base)
			}
		}
	}
	wantControl(t, b, false, 15)
	wantControl(t, b, true, -19)
}

// P29.1: each step removes the first error that is left. A call that fails leaves nothing behind.
func TestErrorsOfPost(t *testing.T) {
	b, j, k := build(t)
	post(t, b, doc(api.Sale, newYear+5, 100), 1, 1, api.OK)
	k.Close("a", "u")
	d := doc(0, newYear, 0)
	d.Party, d.Value, d.Lines[0].Account, d.By = "", newYear-1, "60", ""
	for i, step := range []struct {
		change func()
		e      api.Errno
	}{
		{func() {}, api.ErrKind},
		{func() { d.Kind = api.Purchase }, api.ErrName},
		{func() { d.Party = "p" }, api.ErrArg},
		{func() { d.Lines[0].Net = 1 }, api.ErrRate},
		{func() { d.Value = february - 1 }, api.ErrName},
		{func() { d.By = "u" }, api.ErrOrder},
		{func() { d.Book = newYear + 5 }, api.ErrTag},
		{func() { d.Lines[0].Account = "6" }, api.ErrAccount},
		{func() { d.Lines[0].Account = "50" }, api.ErrPeriod},
	} {
		step.change()
		unchanged(t, b, j, func() {
			if no, id, e := b.Post(d); no != 0 || id != 0 || e != step.e {
				t.Errorf("step %d: Post(%v) = %d, %d, %d, want %d", i, d, no, id, e, step.e)
			}
		})
	}
	d.Value = february
	post(t, b, d, 2, 1, api.OK)
	// An entity that the control does not know.
	other, _ := parties.New(setup("x"), rates(t), j)
	unchanged(t, other, j, func() { post(t, other, d, 0, 0, api.ErrNone) })
}

// P29.1, P29.2: a full journal.
func TestFullJournal(t *testing.T) {
	b, j, _ := build(t)
	for no := 1; no < api.MaxEntries; no++ {
		post(t, b, doc(api.PaymentOut, newYear, 10), no, no, api.OK)
	}
	post(t, b, doc(api.Purchase, 46030, 10), api.MaxEntries, api.MaxEntries, api.OK)
	for _, kind := range []int{api.Sale, api.Purchase} {
		unchanged(t, b, j, func() { post(t, b, doc(kind, 46030, 10), 0, 0, api.ErrMany) })
	}
	// A settlement with a difference needs an entry, another one does not.
	unchanged(t, b, j, func() { settle(t, b, -1, -api.MaxEntries, 10, 46030, 0, api.ErrMany) })
	settle(t, b, -1, -api.MaxEntries, 1, 46030, 0, api.OK)
	wantControl(t, b, true, (api.MaxEntries-1)*9-8)
}

// wantGain fails unless the entry with this number is that of a difference of n of the party p.
func wantGain(t *testing.T, j *journal.Journal, no int, account, result string, n, book, value int, by string) {
	t.Helper()
	control := line(account, 0, n)
	control.Party = "p"
	wanted := api.Entry{No: no, Entity: "a", Book: book, Value: value, Kind: api.Normal, By: by, Lines: []api.Line{control, line(result, 0, -n)}}
	if x, ok := j.Entry(no); !ok || !entry.Same(x, wanted) {
		t.Fatalf("entry %d is %v, want %v", no, x, wanted)
	}
}

// P29.2: gains and losses of receivables and payables, and settlements without a difference.
func TestSettle(t *testing.T) {
	b, j, _ := build(t)
	for no, kind := range []int{api.Sale, api.Purchase} {
		post(t, b, doc(kind, newYear, 100), no+1, 1, api.OK)
	}
	for no, kind := range []int{api.SaleBack, api.PurchBack} {
		post(t, b, doc(kind, newYear, 10), no+3, 2, api.OK)
	}
	for no, kind := range []int{api.PaymentIn, api.PaymentOut} {
		post(t, b, doc(kind, 46030, 60), no+5, 3, api.OK)
	}
	settle(t, b, 1, 2, 10, 46031, 0, api.OK)
	wantLeft(t, b, false, [2]int{90, 81}, [2]int{0, 0}, [2]int{-60, -48})
	// The bases are 53.1 and 47.2.
	settle(t, b, 1, 3, 59, 46031, 7, api.OK)
	wantGain(t, j, 7, "12", "52", -6, 46031, 46031, "u")
	wantLeft(t, b, false, [2]int{31, 28}, [2]int{0, 0}, [2]int{-1, -1})
	wantControl(t, b, false, 27)
	// In the other set nothing has been settled. There a payment is a claim.
	wantLeft(t, b, true, [2]int{-100, -90}, [2]int{10, 9}, [2]int{60, 48})
	settle(t, b, -2, -1, 10, 46031, 0, api.OK)
	settle(t, b, -3, -1, 60, 46032, 8, api.OK)
	wantGain(t, j, 8, "21", "41", 6, 46032, 46032, "u")
	wantLeft(t, b, true, [2]int{-30, -27}, [2]int{0, 0}, [2]int{0, 0})
	wantControl(t, b, true, -27)
	// Now the payments are worth more than the invoices.
	for no, kind := range []int{api.PaymentIn, api.PaymentOut} {
		d := doc(kind, newYear, 30)
		d.Book = 46032
		post(t, b, d, no+9, 4, api.OK)
	}
	for no, kind := range []int{api.Sale, api.Purchase} {
		post(t, b, doc(kind, 46033, 30), no+11, 5, api.OK)
	}
	settle(t, b, 5, 4, 30, 46033, 13, api.OK)
	wantGain(t, j, 13, "12", "41", 3, 46033, 46033, "u")
	if no, e := b.Settle(-4, -5, 30, 46034, newYear, "ann"); no != 14 || e != api.OK {
		t.Errorf("Settle = %d, %d", no, e)
	}
	wantGain(t, j, 14, "21", "52", -3, 46034, newYear, "ann")
	wantControl(t, b, false, 27)
	wantControl(t, b, true, -27)
}

// P29.2: the errors in their order, after which nothing is settled.
func TestErrorsOfSettle(t *testing.T) {
	b, j, k := build(t)
	post(t, b, doc(api.Sale, newYear, 100), 1, 1, api.OK)
	post(t, b, doc(api.PaymentIn, 46030, 60), 2, 2, api.OK)
	post(t, b, of("q", "USD", doc(api.PaymentIn, 46030, 60)), 3, 3, api.OK)
	post(t, b, of("p", "EUR", doc(api.PaymentIn, 46030, 60)), 4, 4, api.OK)
	post(t, b, doc(api.PaymentOut, 46030, 50), 5, 1, api.OK)
	post(t, b, doc(api.Purchase, 46030, 50), 6, 2, api.OK)
	k.Close("a", "u")
	for i, c := range []struct {
		pos, neg, amount, book, value int
		by                            string
		e                             api.Errno
	}{
		{0, 0, 0, -1, -1, "", api.ErrArg}, {0, 2, 0, -1, -1, "", api.ErrArg}, {1, 0, 0, -1, -1, "", api.ErrArg}, {1, -2, 0, -1, -1, "", api.ErrArg}, {-1, 2, 0, -1, -1, "", api.ErrArg}, {0, -2, 0, -1, -1, "", api.ErrArg}, {-1, 0, 0, -1, -1, "", api.ErrArg}, {most, least, 0, -1, -1, "", api.ErrArg}, {least, most, 0, -1, -1, "", api.ErrArg}, {least, 0, 0, -1, -1, "", api.ErrArg},
		{5, 2, 0, -1, -1, "", api.ErrRef}, {1, 5, 0, -1, -1, "", api.ErrRef}, {most, most, 0, -1, -1, "", api.ErrRef}, {-3, -2, 0, -1, -1, "", api.ErrRef}, {-1, -3, 0, -1, -1, "", api.ErrRef}, {least, least, 0, -1, -1, "", api.ErrRef}, {least, -2, 0, -1, -1, "", api.ErrRef}, {-1, least, 0, -1, -1, "", api.ErrRef}, {-most, -most, 0, -1, -1, "", api.ErrRef},
		{2, 1, 0, -1, -1, "", api.ErrKind}, {1, 1, 0, -1, -1, "", api.ErrKind}, {-2, -1, 0, -1, -1, "", api.ErrKind}, {-2, -2, 0, -1, -1, "", api.ErrKind},
		{1, 3, 0, -1, -1, "", api.ErrParty}, {1, 4, 0, -1, -1, "", api.ErrCur},
		{1, 2, 0, -1, -1, "", api.ErrDate}, {1, 2, 0, -1, api.MaxDay + 1, "", api.ErrDate}, {-1, -2, 0, -1, least, "", api.ErrDate},
		{1, 2, 0, -1, newYear, "", api.ErrArg}, {1, 2, -1, -1, newYear, "", api.ErrArg}, {-1, -2, least, -1, newYear, "", api.ErrArg},
		{1, 2, 61, -1, newYear, "", api.ErrLeft}, {-1, -2, 51, -1, newYear, "", api.ErrLeft}, {1, 2, most, -1, newYear, "", api.ErrLeft},
		{1, 2, 60, -1, newYear, "", api.ErrName}, {1, 2, 60, -1, newYear, "u u", api.ErrName},
		{1, 2, 60, -1, newYear, "u", api.ErrDate}, {1, 2, 60, api.MaxDay + 1, newYear, "u", api.ErrDate},
		{1, 2, 60, 46029, newYear, "u", api.ErrOrder}, {1, 2, 60, newYear, february, "u", api.ErrOrder},
		{1, 2, 60, 46030, newYear, "u", api.ErrPeriod}, {1, 2, 59, 46030, february - 1, "u", api.ErrPeriod},
	} {
		unchanged(t, b, j, func() {
			if no, e := b.Settle(c.pos, c.neg, c.amount, c.book, c.value, c.by); no != 0 || e != c.e {
				t.Errorf("case %d: Settle%v = %d, %d", i, c, no, e)
			}
		})
	}
	settle(t, b, 1, 2, 60, february, 7, api.OK)
}

// P29.2: an account for exchange differences that the chart does not allow.
func TestWrongAccount(t *testing.T) {
	for account, wanted := range map[string]api.Errno{"99": api.ErrAccount, "6": api.ErrAccount, "60": api.ErrTag} {
		j, _ := open(t)
		s := setup("a")
		s.Loss = account
		b, _ := parties.New(s, rates(t), j)
		post(t, b, doc(api.Sale, newYear, 100), 1, 1, api.OK)
		post(t, b, doc(api.PaymentIn, 46030, 60), 2, 2, api.OK)
		unchanged(t, b, j, func() { settle(t, b, 1, 2, 60, 46030, 0, wanted) })
		unchanged(t, b, j, func() { auto(t, b, "p", "USD", false, 46030, 0, wanted) })
	}
}

// P29.2, P29.3: without a difference there is no entry, so that its day, its user and its period do not matter.
func TestNoDifference(t *testing.T) {
	b, j, k := build(t)
	post(t, b, doc(api.Sale, newYear, 100), 1, 1, api.OK)
	post(t, b, doc(api.SaleBack, newYear+1, 50), 2, 2, api.OK)
	post(t, b, doc(api.PaymentOut, newYear+2, 100), 3, 1, api.OK)
	post(t, b, doc(api.Purchase, newYear+2, 50), 4, 2, api.OK)
	k.Close("a", "u")
	for _, c := range []struct {
		pos, neg, left int
		pay            bool
	}{{1, 2, 70, false}, {-1, -2, 70, true}} {
		if no, e := b.Settle(c.pos, c.neg, 30, -1, 0, ""); no != 0 || e != api.OK {
			t.Errorf("Settle = %d, %d", no, e)
		}
		wantLeft(t, b, c.pay, [2]int{70, 63}, [2]int{-20, -18})
		if n, e := b.Auto("p", "USD", c.pay, least, api.MaxDay, "u u"); n != 1 || e != api.OK {
			t.Errorf("Auto = %d, %d", n, e)
		}
		wantLeft(t, b, c.pay, [2]int{50, 45}, [2]int{0, 0})
	}
	if j.Len() != 4 {
		t.Errorf("the journal has %d entries", j.Len())
	}
}

// P29.2, P29.3: the greatest number of settlements, which each set has for itself.
func TestManySettlements(t *testing.T) {
	b, j, _ := build(t)
	post(t, b, of("p", "EUR", doc(api.Sale, newYear, 20000)), 1, 1, api.OK)
	post(t, b, of("p", "EUR", doc(api.PaymentIn, newYear, 20000)), 2, 2, api.OK)
	post(t, b, doc(api.PaymentOut, newYear, 30), 3, 1, api.OK)
	post(t, b, doc(api.Purchase, 46030, 30), 4, 2, api.OK)
	for range api.MaxSteps {
		settle(t, b, 1, 2, 1, 46030, 0, api.OK)
	}
	unchanged(t, b, j, func() {
		settle(t, b, 1, 2, 1, 46030, 0, api.ErrMany)
		settle(t, b, 1, 2, 10001, 46030, 0, api.ErrLeft)
		auto(t, b, "p", "EUR", false, 46030, 0, api.ErrMany)
	})
	settle(t, b, -1, -2, 30, 46030, 5, api.OK)
}

// P29.3: the settlements of a plan, in order, for one set, party and currency.
func TestAuto(t *testing.T) {
	b, j, _ := build(t)
	d := doc(api.Sale, newYear, 100)
	d.Terms.Net = 30
	post(t, b, d, 1, 1, api.OK)
	post(t, b, doc(api.Sale, newYear, 50), 2, 2, api.OK)
	post(t, b, of("q", "USD", doc(api.Sale, newYear, 50)), 3, 3, api.OK)
	post(t, b, of("p", "EUR", doc(api.Sale, newYear, 50)), 4, 4, api.OK)
	post(t, b, doc(api.Purchase, newYear, 80), 5, 1, api.OK)
	post(t, b, doc(api.PaymentIn, 46030, 60), 6, 5, api.OK)
	post(t, b, doc(api.PaymentIn, 46030, 60), 7, 6, api.OK)
	post(t, b, doc(api.PaymentOut, 46030, 100), 8, 2, api.OK)
	// Item 2 is due first. The bases that are settled are 45 and 40, 9 and 8, 54 and 48.
	if n, e := b.Auto("p", "USD", false, 46032, 46031, "ann"); n != 3 || e != api.OK {
		t.Fatalf("Auto = %d, %d", n, e)
	}
	for i, loss := range []int{-5, -1, -6} {
		wantGain(t, j, 9+i, "12", "52", loss, 46032, 46031, "ann")
	}
	wantLeft(t, b, false, [2]int{30, 27}, [2]int{0, 0}, [2]int{50, 45}, [2]int{50, 50}, [2]int{0, 0}, [2]int{0, 0})
	wantLeft(t, b, true, [2]int{-80, -72}, [2]int{100, 80})
	auto(t, b, "p", "USD", true, 46032, 1, api.OK)
	wantGain(t, j, 12, "21", "41", 8, 46032, 46032, "u")
	wantLeft(t, b, true, [2]int{0, 0}, [2]int{20, 16})
	// Nothing is left to settle.
	for _, pay := range []bool{false, true} {
		for _, at := range places {
			unchanged(t, b, j, func() {
				if n, e := b.Auto(at[0], at[1], pay, -1, -1, ""); n != 0 || e != api.OK {
					t.Errorf("Auto(%v, %v) = %d, %d", at, pay, n, e)
				}
			})
		}
	}
	wantControl(t, b, false, 122)
	wantControl(t, b, true, 16)
}

// P29.3: what was settled before an error remains, and nothing behind it is settled.
func TestErrorsOfAuto(t *testing.T) {
	for i, c := range []struct {
		book, value int
		by          string
		e           api.Errno
	}{{46030, newYear, "", api.ErrName}, {-1, newYear, "u", api.ErrDate}, {46029, newYear, "u", api.ErrOrder}, {46030, newYear, "u", api.ErrPeriod}} {
		b, j, k := build(t)
		for no, kind := range []int{api.Sale, api.SaleBack, api.Sale, api.Sale, api.SaleBack} {
			d := doc(kind, newYear, 10*(no+1))
			d.Terms.Net = no
			post(t, b, d, no+1, no+1, api.OK)
		}
		post(t, b, doc(api.PaymentIn, 46030, 10), 6, 6, api.OK)
		k.Close("a", "u")
		// The credits are due in the order 2, 5, 6. The first settlements have no difference; those of item 6 have one.
		if n, e := b.Auto("p", "USD", false, c.book, c.value, c.by); n != 4 || e != c.e {
			t.Fatalf("case %d: Auto = %d, %d, want 4, %d", i, n, e, c.e)
		}
		wantLeft(t, b, false, [2]int{0, 0}, [2]int{0, 0}, [2]int{0, 0}, [2]int{10, 9}, [2]int{0, 0}, [2]int{-10, -8})
		unchanged(t, b, j, func() {
			if n, e := b.Auto("p", "USD", false, c.book, c.value, c.by); n != 0 || e != c.e {
				t.Fatalf("case %d: Auto = %d, %d, want 0, %d", i, n, e, c.e)
			}
			if n, e := b.Auto("p", "USD", false, c.book, -1, c.by); n != 0 || e != api.ErrDate {
				t.Fatalf("case %d: Auto = %d, %d, want ErrDate", i, n, e)
			}
		})
		auto(t, b, "p", "USD", false, february, 1, api.OK)
		wantGain(t, j, 7, "12", "52", -1, february, february, "u")
	}
}

// P29.4, P29.5: Control sums the lines of its account and entity, whoever posted them, and what is left of all items.
func TestControl(t *testing.T) {
	b, j, _ := build(t)
	other, _ := parties.New(setup("b"), rates(t), j)
	post(t, b, doc(api.Sale, newYear, 100), 1, 1, api.OK)
	post(t, b, of("q", "JPY", doc(api.Sale, newYear, 1500)), 2, 2, api.OK)
	post(t, b, of("q", "EUR", doc(api.PaymentOut, newYear, 7)), 3, 1, api.OK)
	post(t, other, doc(api.Sale, newYear, 1000), 4, 1, api.OK)
	post(t, other, doc(api.Purchase, newYear, 2000), 5, 1, api.OK)
	wantControl(t, b, false, 100)
	wantControl(t, b, true, 7)
	wantControl(t, other, false, 900)
	wantControl(t, other, true, -1800)
	// Entries of others change the ledger only. Their lines need no party.
	for no, entity := range []string{"a", "b"} {
		x := api.Entry{Entity: entity, Book: newYear, Value: february, Kind: api.Adjust, By: "u", Lines: []api.Line{line("12", 5, 3), line("21", 0, 10), line("12", 0, 4), line("10", -5, -17)}}
		if n, at, e := j.Post(x); n != no+6 || e != api.OK {
			t.Fatalf("Post = %d, %d, %d", n, at, e)
		}
	}
	if rev, e := j.Reverse(1, newYear, newYear, "u"); rev != 8 || e != api.OK {
		t.Fatalf("Reverse = %d, %d", rev, e)
	}
	for _, c := range []struct {
		b             *parties.Sub
		pay           bool
		ledger, items int
	}{{b, false, 17, 100}, {b, true, 17, 7}, {other, false, 907, 900}, {other, true, -1790, -1800}} {
		if ledger, items := c.b.Control(c.pay); ledger != c.ledger || items != c.items {
			t.Errorf("Control(%v) = %d, %d, want %d, %d", c.pay, ledger, items, c.ledger, c.items)
		}
	}
	// A subledger that begins later has no items yet.
	late, _ := parties.New(setup("b"), rates(t), j)
	if ledger, items := late.Control(false); ledger != 907 || items != 0 || late.Len(false) != 0 {
		t.Errorf("Control = %d, %d", ledger, items)
	}
}

// P29.4: one account for both sets has the lines of both.
func TestSharedAccount(t *testing.T) {
	j, _ := open(t)
	s := setup("a")
	s.Payable = s.Receivable
	b, _ := parties.New(s, rates(t), j)
	post(t, b, doc(api.Sale, newYear, 100), 1, 1, api.OK)
	post(t, b, doc(api.Purchase, newYear, 10), 2, 1, api.OK)
	for pay, wanted := range map[bool]int{false: 90, true: -9} {
		if ledger, items := b.Control(pay); ledger != 81 || items != wanted {
			t.Errorf("Control(%v) = %d, %d, want 81, %d", pay, ledger, items, wanted)
		}
	}
}

// P29.1, P29.4, rule 6: neither the arguments nor the results share memory with the subledger.
func TestMemory(t *testing.T) {
	j, _ := open(t)
	s := setup("a")
	b, _ := parties.New(s, rates(t), j)
	s.Codes[0].Account = "?"
	s.Codes[0].F.N = 4
	d := doc(api.Sale, newYear, 100)
	d.Lines[0].Code, d.Lines[0].Tags = "std", []api.Tag{{Name: "dept", Value: "x"}}
	post(t, b, d, 1, 1, api.OK)
	if d.Lines[0].Net != 100 || d.Lines[0].Tags[0].Value != "x" {
		t.Errorf("Post changed the document to %v", d)
	}
	d.Lines[0].Tags[0].Value = "y"
	d.Lines[0].Code = ""
	control, net := line("12", 120, 108), line("40", -100, -90)
	control.Party, net.Tags = "p", []api.Tag{{Name: "dept", Value: "x"}}
	wantLines(t, j, 1, control, net, line("22", -20, -18))
	post(t, b, d, 2, 2, api.OK)
	ids := b.Open(false, "p", "USD")
	ids[0] = 7
	_ = append(ids[:1], 8)
	if l := b.Open(false, "p", "USD"); !slices.Equal(l, []int{1, 2}) {
		t.Errorf("Open = %v", l)
	}
}

// users are users of which one is not a code.
var users = []string{"u", "u", "v", "u", "u", "w", "u", "u", "u", ""}

// trial is a subledger that random calls are tried with, and a twin of it, which performs plans step by step.
type trial struct {
	b, twin  *parties.Sub
	j, other *journal.Journal
	k        *locks.Locks
	r        *rand.Rand
	day      int
	counts   map[string]int
}

// pick returns one of the elements.
func pick[T any](r *rand.Rand, l ...T) T {
	return l[r.Intn(len(l))]
}

// wantPosted fails unless the journal has this entry behind those before, or none if it is nil, and no is its number.
func (x *trial) wantPosted(t *testing.T, before int, wanted *api.Entry, no int) {
	t.Helper()
	if wanted == nil {
		if no != 0 || x.j.Len() != before {
			t.Fatalf("there is an entry %d, or %d, behind %d", no, x.j.Len(), before)
		}
		return
	}
	wanted.No = before + 1
	if y, ok := x.j.Entry(no); no != before+1 || x.j.Len() != no || !ok || !entry.Same(y, *wanted) {
		t.Fatalf("entry %d is %v, want %v", no, y, *wanted)
	}
}

// post tries a random document.
func (x *trial) post(t *testing.T) {
	t.Helper()
	kind := 1 + x.r.Intn(6)
	if x.r.Intn(20) == 0 {
		kind = pick(x.r, 0, 7)
	}
	d := of(pick(x.r, "p", "p", "q"), pick(x.r, "USD", "USD", "USD", "USD", "EUR", "JPY", "JPY", "CHF"), doc(kind, x.day-x.r.Intn(12), x.r.Intn(1000)))
	d.Book, d.Terms.Net, d.By = x.day-x.r.Intn(20)/19, x.r.Intn(40), pick(x.r, users...)
	before, size := x.j.Len(), [2]int{x.b.Len(false), x.b.Len(true)}
	made, item, wanted := docs.Make(setup("a"), rates(t), d)
	no, id, e := x.b.Post(d)
	m, k, f := x.twin.Post(d)
	if no != m || id != k || e != f || wanted != api.OK && e != wanted {
		t.Fatalf("Post(%v) = %d, %d, %d, of the twin %d, %d, %d, want %d", d, no, id, e, m, k, f, wanted)
	}
	if e != api.OK {
		x.wantPosted(t, before, nil, no)
		return
	}
	x.wantPosted(t, before, &made, no)
	pay := isPayable(d.Kind)
	size[map[bool]int{false: 0, true: 1}[pay]]++
	if i, ok := x.b.Item(pay, id); !ok || i != item || x.b.Len(false) != size[0] || x.b.Len(true) != size[1] {
		t.Fatalf("item %d is %v, want %v", id, i, item)
	}
}

// settle tries a settlement of random items, and compares what it takes from them with the entry.
func (x *trial) settle(t *testing.T) {
	t.Helper()
	pay := x.r.Intn(2) == 0
	pos, neg, amount := x.r.Intn(x.b.Len(pay)+2), x.r.Intn(x.b.Len(pay)+2), x.r.Intn(300)
	if x.r.Intn(4) > 0 {
		pos, neg = x.pair(pay, pick(x.r, "p", "p", "q"), pick(x.r, "USD", "USD", "USD", "JPY"))
		claim, _ := x.b.Left(pay, pos)
		credit, _ := x.b.Left(pay, neg)
		amount = min(claim, -credit)
		if x.r.Intn(3) > 0 {
			amount = x.r.Intn(amount + 2)
		}
	}
	before := x.j.Len()
	amounts, bases := x.left(pay, pos, neg)
	p, n := pos, neg
	if pay {
		p, n = -pos, -neg
	}
	value, by := x.day-x.r.Intn(3), pick(x.r, users...)
	no, e := x.b.Settle(p, n, amount, x.day, value, by)
	if m, f := x.twin.Settle(p, n, amount, x.day, value, by); no != m || e != f {
		t.Fatalf("Settle = %d, %d, of the twin %d, %d", no, e, m, f)
	}
	if e != api.OK {
		x.wantPosted(t, before, nil, no)
		if a, b := x.left(pay, pos, neg); a != amounts || b != bases {
			t.Fatalf("a failed call took something from the items %d and %d", pos, neg)
		}
		return
	}
	a, b := x.left(pay, pos, neg)
	if a != [2]int{amounts[0] - amount, amounts[1] + amount} {
		t.Fatalf("a settlement of %d left %v of %v", amount, a, amounts)
	}
	i, _ := x.b.Item(pay, pos)
	made, ok, f := docs.Gain(setup("a"), api.Settlement{PosBase: bases[0] - b[0], NegBase: b[1] - bases[1]}, i.Party, i.Cur, pay, x.day, value, by)
	switch {
	case f != api.OK:
		t.Fatalf("Settle has no error, but Gain has %d", f)
	case ok:
		x.wantPosted(t, before, &made, no)
		x.counts["difference"]++
	default:
		x.wantPosted(t, before, nil, no)
		x.counts["no difference"]++
	}
}

// left returns what is left of two items.
func (x *trial) left(pay bool, pos, neg int) (amounts, bases [2]int) {
	amounts[0], bases[0] = x.b.Left(pay, pos)
	amounts[1], bases[1] = x.b.Left(pay, neg)
	return amounts, bases
}

// pair returns the first open claim and the first open credit of the twin, or 0 for none.
func (x *trial) pair(pay bool, party, cur string) (pos, neg int) {
	for _, id := range x.twin.Open(pay, party, cur) {
		i, _ := x.twin.Item(pay, id)
		switch {
		case i.Amount > 0 && pos == 0:
			pos = id
		case i.Amount < 0 && neg == 0:
			neg = id
		}
	}
	return pos, neg
}

// auto tries Auto, and settles the items of the twin one by one: the first open claim with the first open credit.
func (x *trial) auto(t *testing.T) {
	t.Helper()
	pay, party, cur := x.r.Intn(2) == 0, pick(x.r, "p", "q", "x"), pick(x.r, "USD", "EUR", "JPY")
	value, by := x.day-x.r.Intn(3), pick(x.r, users...)
	n, e := x.b.Auto(party, cur, pay, x.day, value, by)
	m, f := 0, api.OK
	for {
		pos, neg := x.pair(pay, party, cur)
		if pos == 0 || neg == 0 {
			break
		}
		claim, _ := x.twin.Left(pay, pos)
		credit, _ := x.twin.Left(pay, neg)
		if pay {
			pos, neg = -pos, -neg
		}
		if _, f = x.twin.Settle(pos, neg, min(claim, -credit), x.day, value, by); f != api.OK {
			break
		}
		m++
	}
	if n != m || e != f {
		t.Fatalf("Auto(%q, %q, %v) = %d, %d, want %d, %d", party, cur, pay, n, e, m, f)
	}
	switch {
	case n > 0 && e != api.OK:
		x.counts["plan with an error"]++
	case n > 1:
		x.counts["plan"]++
	}
}

// P29.1 to P29.5: random calls, after each of which both sets reconcile with their control accounts.
func TestRandomCalls(t *testing.T) {
	r := rand.New(rand.NewSource(29))
	counts := map[string]int{}
	for range 150 {
		x := &trial{r: r, day: newYear + 12, counts: counts}
		x.b, x.j, x.k = build(t)
		var k *locks.Locks
		x.twin, x.other, k = build(t)
		for range 80 {
			switch n := r.Intn(20); {
			case n < 11:
				x.post(t)
			case n < 16:
				x.settle(t)
			case n < 18:
				x.auto(t)
			case n < 19:
				x.day += r.Intn(4)
			case r.Intn(3) == 0:
				x.k.Close("a", "u")
				k.Close("a", "u")
				x.day = max(x.day, february+15)
			}
			one, two := look(t, x.b, x.j), look(t, x.twin, x.other)
			if !reflect.DeepEqual(one, two) {
				t.Fatalf("the subledger and its twin are %v and %v", one, two)
			}
			for _, c := range one.control {
				if c[0] != c[1] {
					t.Fatalf("Control = %v", one.control)
				}
			}
		}
		counts["entries"] += x.j.Len()
	}
	for what, least := range map[string]int{"entries": 1000, "difference": 100, "no difference": 100, "plan": 20, "plan with an error": 1} {
		if counts[what] < least {
			t.Errorf("there are too few of a kind: %s in %v", what, counts)
		}
	}
}
