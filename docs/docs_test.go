package docs_test

import (
	"math"
	"math/rand"
	"reflect"
	"slices"
	"strconv"
	"strings"
	"testing"

	"accounting/api"
	"accounting/dims"
	"accounting/docs"
	"accounting/entry"
	"accounting/fx"
	"accounting/money"
	"accounting/tax"
	"accounting/terms"
	"accounting/words"
)

const most, least, limit = math.MaxInt, math.MinInt, api.MaxAmount

// noCodes are texts that are not codes, noCurs texts that are no currency codes, and noDays integers that are not days.
var (
	noCodes = []string{"", "a b", "a-b", "abcdefghijklm", "\xff", "\u00e9", "a\n"}
	noCurs  = []string{"", "EU", "EURO", "eur", "E1R", "EU ", "\u00c9UR"}
	noDays  = []int{-1, api.MaxDay + 1, -api.MaxDay, most, least}
)

// setup returns the setup of the chapter's examples.
func setup() api.Setup {
	return api.Setup{Entity: "a", Base: "EUR", Receivable: "12", Payable: "21", Gain: "41", Loss: "52", Codes: []api.TaxCode{taxCode("std", "22", 19, 100)}, Way: api.PerCode, Mode: api.Half}
}

// with returns the setup of the examples with other tax codes, another way and another mode.
func with(way, mode int, codes ...api.TaxCode) api.Setup {
	s := setup()
	s.Way, s.Mode, s.Codes = way, mode, codes
	return s
}

// taxCode returns a tax code with the rate n/d.
func taxCode(name, account string, n, d int) api.TaxCode {
	return api.TaxCode{Name: name, Account: account, F: api.Frac{N: n, D: d}}
}

// rates returns a table in EUR. USD is worth 9/10 from day 10 on, as in the chapter's examples, and 4/5 from day 100 on; BIG has the greatest rate, LOW the smallest, and AVG no closing rate.
func rates(t *testing.T) *fx.Table {
	t.Helper()
	return table(t, "EUR",
		api.Rate{Cur: "USD", Kind: api.Closing, Day: 10, F: api.Frac{N: 9, D: 10}}, api.Rate{Cur: "USD", Kind: api.Closing, Day: 100, F: api.Frac{N: 4, D: 5}},
		api.Rate{Cur: "USD", Kind: api.Average, Day: 0, F: api.Frac{N: 7, D: 1}}, api.Rate{Cur: "USD", Kind: api.Historic, Day: 0, F: api.Frac{N: 8, D: 1}},
		api.Rate{Cur: "BIG", Kind: api.Closing, Day: 0, F: api.Frac{N: api.MaxPart, D: 1}}, api.Rate{Cur: "LOW", Kind: api.Closing, Day: 0, F: api.Frac{N: 1, D: api.MaxPart}},
		api.Rate{Cur: "AVG", Kind: api.Average, Day: 0, F: api.Frac{N: 1, D: 2}}, api.Rate{Cur: "AVG", Kind: api.Historic, Day: 0, F: api.Frac{N: 1, D: 2}},
	)
}

// table returns a table of rates.
func table(t *testing.T, base string, l ...api.Rate) *fx.Table {
	t.Helper()
	r, at, e := fx.New(base, l...)
	if e != api.OK {
		t.Fatalf("fx.New = %d, %d", at, e)
	}
	return r
}

// invoice returns a document of a kind in USD with these lines.
func invoice(kind int, l ...api.DocLine) api.Doc {
	return api.Doc{Kind: kind, Party: "p", Book: 21, Value: 20, Cur: "USD", Lines: l, Terms: api.Terms{Net: 30}, Ref: "r 1", By: "u"}
}

// payment returns a payment in USD.
func payment(kind, amount int) api.Doc {
	return api.Doc{Kind: kind, Party: "p", Book: 21, Value: 20, Cur: "USD", Amount: amount, Bank: "10", Ref: "r 2", By: "u"}
}

// line returns a line in USD.
func line(account string, amount, base int) api.Line {
	return api.Line{Account: account, Cur: "USD", Amount: amount, Base: base}
}

// of returns a line with a party.
func of(party string, l api.Line) api.Line {
	l.Party = party
	return l
}

// goods returns a line of a document without tags.
func goods(account string, net int, code string) api.DocLine {
	return api.DocLine{Account: account, Net: net, Code: code}
}

// size returns the absolute value of n.
func size(n int) int {
	return max(n, -n)
}

// repeated returns n lines of a document that are equal.
func repeated(n int, l api.DocLine) []api.DocLine {
	return slices.Repeat([]api.DocLine{l}, n)
}

// wantMake fails unless Make returns an entry with these lines, and the item of the control line, which is the one with the party.
func wantMake(t *testing.T, s api.Setup, d api.Doc, due int, l ...api.Line) {
	t.Helper()
	wanted := api.Entry{Entity: s.Entity, Book: d.Book, Value: d.Value, Kind: api.Normal, Ref: d.Ref, By: d.By, Lines: l}
	at := slices.IndexFunc(l, func(x api.Line) bool { return x.Party != "" })
	item := api.OpenItem{Party: d.Party, Cur: d.Cur, Amount: l[at].Amount, Base: l[at].Base, Day: d.Value, Due: due, Ref: d.Ref}
	if x, i, e := docs.Make(s, rates(t), d); !entry.Same(x, wanted) || i != item || e != api.OK {
		t.Fatalf("Make(%v) = %v, %v, %d, want %v, %v", d, x, i, e, wanted, item)
	}
}

// wantError fails unless Make returns this error and nothing else.
func wantError(t *testing.T, s api.Setup, r *fx.Table, d api.Doc, wanted api.Errno) {
	t.Helper()
	if x, i, e := docs.Make(s, r, d); !reflect.DeepEqual(x, api.Entry{}) || i != (api.OpenItem{}) || e != wanted {
		t.Errorf("Make(%v, %v) = %v, %v, %d, want %d", s, d, x, i, e, wanted)
	}
}

// P28.1: the chapter's examples.
func TestExamples(t *testing.T) {
	wantMake(t, setup(), invoice(api.Sale, goods("40", 100, "std")), 50, of("p", line("12", 119, 107)), line("40", -100, -90), line("22", -19, -17))
	wantMake(t, setup(), payment(api.PaymentIn, 119), 20, line("10", 119, 107), of("p", line("12", -119, -107)))
	x, ok, e := docs.Gain(setup(), api.Settlement{PosBase: 107, NegBase: 110}, "p", "USD", false, 21, 20, "u")
	wanted := api.Entry{Entity: "a", Book: 21, Value: 20, Kind: api.Normal, By: "u", Lines: []api.Line{of("p", line("12", 0, 3)), line("41", 0, -3)}}
	if !entry.Same(x, wanted) || !ok || e != api.OK {
		t.Errorf("Gain = %v, %v, %d, want %v", x, ok, e, wanted)
	}
}

// setups are changes of a setup after which it is still valid, or not.
func setups() (right, wrong []api.Setup) {
	change := func(f func(s *api.Setup)) api.Setup {
		s := setup()
		f(&s)
		return s
	}
	many := func(n int) (l []api.TaxCode) {
		for i := range n {
			l = append(l, taxCode("c"+strconv.Itoa(1000+i), "22", i%2, 1))
		}
		return l
	}
	for way := api.PerLine; way <= api.Within; way++ {
		for mode := api.Down; mode <= api.Floor; mode++ {
			right = append(right, with(way, mode), with(way, mode, many(api.MaxParts)...), with(way, mode, taxCode("a", "1", 0, 1), taxCode("b", "1", 1, 1)))
		}
	}
	right = append(right, setup(), change(func(s *api.Setup) {
		s.Entity, s.Receivable, s.Payable, s.Gain, s.Loss = "_", "abcdefghijkl", "Z", "9", "a_1"
	}), change(func(s *api.Setup) { s.Payable, s.Gain, s.Loss = s.Receivable, s.Receivable, s.Receivable }), change(func(s *api.Setup) { s.Codes = []api.TaxCode{} }))
	for _, code := range noCodes {
		for _, f := range []func(s *api.Setup){func(s *api.Setup) { s.Entity = code }, func(s *api.Setup) { s.Receivable = code }, func(s *api.Setup) { s.Payable = code }, func(s *api.Setup) { s.Gain = code }, func(s *api.Setup) { s.Loss = code }, func(s *api.Setup) { s.Codes[0].Name = code }, func(s *api.Setup) { s.Codes[0].Account = code }} {
			wrong = append(wrong, change(f))
		}
	}
	for _, cur := range noCurs {
		wrong = append(wrong, change(func(s *api.Setup) { s.Base = cur }))
	}
	for _, n := range []int{0, -1, 4, 6, most, least} {
		wrong = append(wrong, change(func(s *api.Setup) { s.Way = n }))
	}
	for _, n := range []int{0, -1, 6, 7, most, least} {
		wrong = append(wrong, change(func(s *api.Setup) { s.Mode = n }))
	}
	wrong = append(wrong, api.Setup{}, with(api.PerCode, api.Half, many(api.MaxParts+1)...), with(api.PerCode, api.Half, taxCode("a", "1", 0, 1), taxCode("a", "1", 0, 1)), with(api.PerCode, api.Half, taxCode("b", "1", 0, 1), taxCode("a", "1", 0, 1)))
	for _, f := range []api.Frac{{}, {N: 2, D: 4}, {N: 3, D: 2}, {N: -1, D: 2}, {N: 1, D: -2}, {N: 1, D: api.MaxPart + 1}} {
		wrong = append(wrong, with(api.PerCode, api.Half, taxCode("a", "1", f.N, f.D)))
	}
	return right, wrong
}

// P28.1, P28.2: a setup that is not valid is the first error of everything.
func TestRight(t *testing.T) {
	right, wrong := setups()
	for _, s := range right {
		if !docs.Right(s) {
			t.Errorf("Right(%v) is false", s)
		}
		wantError(t, s, nil, invoice(0), api.ErrNone)
		if _, _, e := docs.Gain(s, api.Settlement{}, "", "", false, -1, -1, ""); e != api.ErrName {
			t.Errorf("Gain(%v) = %d", s, e)
		}
	}
	for _, s := range wrong {
		if docs.Right(s) {
			t.Errorf("Right(%v) is true", s)
		}
		wantError(t, s, rates(t), invoice(api.Sale, goods("40", 100, "")), api.ErrArg)
		wantError(t, s, nil, invoice(0), api.ErrArg)
		wantGain(t, s, api.Settlement{PosBase: 1}, "p", "USD", false, 21, 20, "u", api.ErrArg)
		wantGain(t, s, api.Settlement{}, "p", "USD", false, 21, 20, "u", api.ErrArg)
		wantGain(t, s, api.Settlement{PosBase: most, NegBase: least}, "", "", true, -1, -1, "", api.ErrArg)
	}
}

// P28.1: the lines of all kinds of documents.
func TestKinds(t *testing.T) {
	s := with(api.PerCode, api.Half, taxCode("low", "23", 7, 100), taxCode("off", "24", 1, 2), taxCode("std", "22", 19, 100))
	dept := []api.Tag{{Name: "dept", Value: "x"}, {Name: "proj", Value: "7"}}
	l := []api.DocLine{goods("40", 100, "std"), {Account: "42", Net: 50, Tags: dept}, goods("40", 200, "low"), {Account: "12", Net: 1, Code: "std", Tags: dept[:1]}}
	// The taxes are those on 101 and on 200: 19.19 and 14.
	net := func(sign int) []api.Line {
		tagged, short := line("42", 50*sign, 45*sign), line("12", sign, sign)
		tagged.Tags, short.Tags = dept, dept[:1]
		return []api.Line{line("40", 100*sign, 90*sign), tagged, line("40", 200*sign, 180*sign), short, line("23", 14*sign, 13*sign), line("22", 19*sign, 17*sign)}
	}
	for _, c := range []struct {
		kind, sign int
		account    string
	}{{api.Sale, 1, "12"}, {api.SaleBack, -1, "12"}, {api.Purchase, -1, "21"}, {api.PurchBack, 1, "21"}} {
		control := of("p", line(c.account, 384*c.sign, 346*c.sign))
		wantMake(t, s, invoice(c.kind, l...), 50, append([]api.Line{control}, net(-c.sign)...)...)
	}
	wantMake(t, s, payment(api.PaymentIn, 7), 20, line("10", 7, 6), of("p", line("12", -7, -6)))
	wantMake(t, s, payment(api.PaymentOut, 7), 20, of("p", line("21", 7, 6)), line("10", -7, -6))
}

// P28.1: lines with an amount of 0 are omitted, those with a base of 0 are not.
func TestZeroLines(t *testing.T) {
	s := with(api.PerLine, api.Half, taxCode("free", "23", 0, 1), taxCode("std", "22", 19, 100))
	wantMake(t, s, invoice(api.Sale, goods("40", 0, ""), goods("41", 10, "free"), goods("42", 0, "std")), 50, of("p", line("12", 10, 9)), line("41", -10, -9))
	wantMake(t, s, invoice(api.Purchase, goods("41", 0, "free"), goods("40", 2, "std"), goods("43", 0, "")), 50, of("p", line("21", -2, -2)), line("40", 2, 2))
	// The net is 0, the tax is not.
	s = with(api.Within, api.Up, taxCode("all", "22", 1, 1))
	wantMake(t, s, invoice(api.Sale, goods("40", 1, "all")), 50, of("p", line("12", 1, 1)), line("22", -1, -1))
	wantError(t, s, rates(t), invoice(api.Sale, goods("40", 0, "all"), goods("40", 0, "")), api.ErrArg)
	low := func(l api.Line) api.Line {
		l.Cur = "LOW"
		return l
	}
	d := invoice(api.SaleBack, goods("40", 100, ""), goods("41", 600000, ""))
	d.Cur = "LOW"
	wantMake(t, setup(), d, 50, of("p", low(line("12", -600100, -1))), low(line("40", 100, 0)), low(line("41", 600000, 1)))
	d = payment(api.PaymentOut, 1)
	d.Cur = "LOW"
	wantMake(t, setup(), d, 20, of("p", low(line("21", 1, 0))), low(line("10", -1, 0)))
}

// P28.1: the nets and taxes are those of chapter 25 for each way.
func TestWays(t *testing.T) {
	l := []api.DocLine{goods("40", 103, "std"), goods("41", 103, "std"), goods("42", 50, "")}
	for way, c := range map[int]struct{ gross, net, tax int }{api.PerLine: {296, 103, 40}, api.PerCode: {295, 103, 39}, api.Within: {256, 87, 32}} {
		d := invoice(api.Sale, l...)
		d.Cur = "EUR"
		wanted := []api.Line{of("p", line("12", c.gross, c.gross)), line("40", -c.net, -c.net), line("41", -c.net, -c.net), line("42", -50, -50), line("22", -c.tax, -c.tax)}
		for i := range wanted {
			wanted[i].Cur = "EUR"
		}
		wantMake(t, with(way, api.Half, setup().Codes...), d, 50, wanted...)
	}
}

// P28.1: each line is converted with its sign, and rounded with the mode of the setup.
func TestModes(t *testing.T) {
	// The bases are 13.5 and 22.5.
	for mode, c := range map[int][4]int{api.Down: {13, 22, -13, -22}, api.Up: {14, 23, -14, -23}, api.Half: {14, 23, -14, -23}, api.Even: {14, 22, -14, -22}, api.Floor: {13, 22, -14, -23}} {
		s := with(api.PerCode, mode)
		l := []api.DocLine{goods("40", 15, ""), goods("41", 25, "")}
		wantMake(t, s, invoice(api.Purchase, l...), 50, of("p", line("21", -40, -c[0]-c[1])), line("40", 15, c[0]), line("41", 25, c[1]))
		wantMake(t, s, invoice(api.Sale, l...), 50, of("p", line("12", 40, -c[2]-c[3])), line("40", -15, c[2]), line("41", -25, c[3]))
		wantMake(t, s, payment(api.PaymentIn, 15), 20, line("10", 15, c[0]), of("p", line("12", -15, -c[0])))
		wantMake(t, s, payment(api.PaymentOut, 15), 20, of("p", line("21", 15, -c[2])), line("10", -15, c[2]))
	}
	// The taxes are rounded with the mode, too: that on 5 is 0.95.
	s := setup()
	s.Mode = api.Down
	wantMake(t, s, invoice(api.Sale, goods("40", 5, "std"), goods("40", 5, "")), 50, of("p", line("12", 10, 8)), line("40", -5, -4), line("40", -5, -4))
	s.Mode = api.Up
	wantMake(t, s, invoice(api.Sale, goods("40", 5, "std")), 50, of("p", line("12", 6, 6)), line("40", -5, -5), line("22", -1, -1))
}

// P28.1: the rate is the closing rate of the value day.
func TestRates(t *testing.T) {
	d := payment(api.PaymentIn, 100)
	for _, c := range []struct{ book, value, base int }{{0, 10, 90}, {100, 99, 90}, {99, 100, 80}, {100, 100, 80}, {0, api.MaxDay, 80}} {
		d.Book, d.Value = c.book, c.value
		wantMake(t, setup(), d, c.value, line("10", 100, c.base), of("p", line("12", -100, -c.base)))
	}
	d.Book, d.Value = 100, 9
	wantError(t, setup(), rates(t), d, api.ErrRate)
	for _, kind := range []int{api.Sale, api.SaleBack, api.Purchase, api.PurchBack} {
		d := invoice(kind, goods("40", 100, ""))
		d.Value = 9
		wantError(t, setup(), rates(t), d, api.ErrRate)
	}
	for _, cur := range []string{"AVG", "CHF"} {
		d := payment(api.PaymentOut, 100)
		d.Cur = cur
		wantError(t, setup(), rates(t), d, api.ErrRate)
	}
	// The base currency needs no rate.
	d = payment(api.PaymentOut, 100)
	d.Cur, d.Value = "EUR", 0
	if x, i, e := docs.Make(setup(), table(t, "EUR"), d); len(x.Lines) != 2 || x.Lines[1].Base != -100 || i.Base != 100 || e != api.OK {
		t.Errorf("Make = %v, %v, %d", x, i, e)
	}
}

// P28.1: an invoice is due according to its terms, a payment on its value day.
func TestDue(t *testing.T) {
	d := invoice(api.Purchase, goods("40", 100, ""))
	l := []api.Line{of("p", line("21", -100, -90)), line("40", 100, 90)}
	for _, c := range []struct {
		t   api.Terms
		due int
	}{{api.Terms{}, 20}, {api.Terms{Net: 365}, 385}, {api.Terms{Eom: true}, 30}, {api.Terms{Net: 10, Eom: true, Cuts: []api.Cut{{Days: 5, F: api.Frac{N: 1, D: 2}}}}, 40}} {
		d.Terms = c.t
		wantMake(t, setup(), d, c.due, l...)
	}
	for _, x := range []api.Terms{{Net: -1}, {Net: 366}, {Net: least}, {Cuts: make([]api.Cut, 1)}, {Cuts: make([]api.Cut, 6)}} {
		d.Terms = x
		wantError(t, setup(), rates(t), d, api.ErrArg)
	}
	d.Value, d.Terms = api.MaxDay, api.Terms{}
	wantMake(t, setup(), d, api.MaxDay, of("p", line("21", -100, -80)), line("40", 100, 80))
	d.Terms.Net = 1
	wantError(t, setup(), rates(t), d, api.ErrDate)
}

// P28.1: what belongs to documents of another sort is not looked at.
func TestOtherFields(t *testing.T) {
	d := invoice(api.Sale, goods("40", 100, ""))
	d.Amount, d.Bank = least, "\n"
	wantMake(t, setup(), d, 50, of("p", line("12", 100, 90)), line("40", -100, -90))
	for _, kind := range []int{api.PaymentIn, api.PaymentOut} {
		d = payment(kind, 100)
		d.Terms, d.Lines = api.Terms{Net: -1, Cuts: make([]api.Cut, 9)}, []api.DocLine{{Net: -1, Tags: make([]api.Tag, 1)}}
		wanted := []api.Line{line("10", 100, 90), of("p", line("12", -100, -90))}
		if kind == api.PaymentOut {
			wanted = []api.Line{of("p", line("21", 100, 90)), line("10", -100, -90)}
		}
		wantMake(t, setup(), d, 20, wanted...)
		d.Value = api.MaxDay
		if _, i, e := docs.Make(setup(), rates(t), d); i.Due != api.MaxDay || e != api.OK {
			t.Errorf("Make = %v, %d", i, e)
		}
	}
}

// step is a change that removes the first error, and the error that is the first one then.
type step struct {
	change func()
	e      api.Errno
}

// P28.1: each step removes the first error of an invoice that is left.
func TestErrorsOfInvoices(t *testing.T) {
	s, r := setup(), (*fx.Table)(nil)
	s.Loss = ""
	d := api.Doc{Cur: "usd", Value: -1, Book: -1, Ref: "\n", Terms: api.Terms{Net: 365}}
	steps := []step{
		{func() {}, api.ErrArg},
		{func() { s.Loss = "52" }, api.ErrNone},
		{func() { r = table(t, "USD") }, api.ErrCur},
		{func() { r = rates(t) }, api.ErrKind},
		{func() { d.Kind = api.Purchase }, api.ErrName},
		{func() { d.Party = "p" }, api.ErrCur},
		{func() { d.Cur = "CHF" }, api.ErrDate},
		{func() { d.Value = api.MaxDay }, api.ErrArg},
		{func() {
			d.Lines = repeated(api.MaxParts+1, goods("40", 0, ""))
			d.Lines[0] = api.DocLine{Net: -1, Code: "x", Tags: make([]api.Tag, 1)}
			d.Lines[1] = api.DocLine{Net: limit + 1, Code: "x"}
		}, api.ErrName},
		{func() { d.Lines[0].Account = "40" }, api.ErrTag},
		{func() { d.Lines[0].Tags = nil }, api.ErrArg},
		{func() { d.Lines[0].Net, d.Lines[0].Code = 0, "std" }, api.ErrName},
		{func() { d.Lines[1].Account = "40" }, api.ErrMany},
		{func() { d.Lines = d.Lines[:api.MaxParts] }, api.ErrOver},
		{func() { d.Lines[1].Net = 0 }, api.ErrRef},
		{func() { d.Lines[1].Code = "" }, api.ErrArg},
		{func() { d.Lines[1].Net = limit }, api.ErrDate},
		{func() { d.Terms.Cuts = make([]api.Cut, 1) }, api.ErrArg},
		{func() { d.Terms = api.Terms{} }, api.ErrRate},
		{func() { d.Cur = "BIG" }, api.ErrOver},
		{func() { d.Cur = "USD" }, api.ErrName},
		{func() { d.By = "u" }, api.ErrDate},
		{func() { d.Book = 0 }, api.ErrForm},
	}
	for i, x := range steps {
		x.change()
		wantError(t, s, r, d, x.e)
		if t.Failed() {
			t.Fatalf("step %d", i)
		}
	}
	d.Ref = ""
	wantMake(t, s, d, api.MaxDay, of("p", line("21", -limit, -limit/5*4)), line("40", limit, limit/5*4))
}

// P28.1: each step removes the first error of a payment that is left.
func TestErrorsOfPayments(t *testing.T) {
	for _, kind := range []int{api.PaymentIn, api.PaymentOut} {
		s, r := setup(), (*fx.Table)(nil)
		s.Codes[0].Name = ""
		d := api.Doc{Kind: api.PaymentOut + 1, Party: "p p", Cur: "US", Value: api.MaxDay + 1, Book: least, Ref: strings.Repeat("r", 61)}
		steps := []step{
			{func() {}, api.ErrArg},
			{func() { s.Codes = nil }, api.ErrNone},
			{func() { r = table(t, "CHF") }, api.ErrCur},
			{func() { r = rates(t) }, api.ErrKind},
			{func() { d.Kind = kind }, api.ErrName},
			{func() { d.Party = "p" }, api.ErrCur},
			{func() { d.Cur = "CHF" }, api.ErrDate},
			{func() { d.Value = 50 }, api.ErrArg},
			{func() { d.Amount = least }, api.ErrArg},
			{func() { d.Amount = -1 }, api.ErrArg},
			{func() { d.Amount = limit + 1 }, api.ErrOver},
			{func() { d.Amount = most }, api.ErrOver},
			{func() { d.Amount = limit }, api.ErrName},
			{func() { d.Bank = "1 0" }, api.ErrName},
			{func() { d.Bank = "10" }, api.ErrRate},
			{func() { d.Cur = "BIG" }, api.ErrOver},
			{func() { d.Cur = "USD" }, api.ErrName},
			{func() { d.By = "u" }, api.ErrDate},
			{func() { d.Book = api.MaxDay }, api.ErrForm},
		}
		for i, x := range steps {
			x.change()
			wantError(t, s, r, d, x.e)
			if t.Failed() {
				t.Fatalf("kind %d: step %d", kind, i)
			}
		}
		d.Ref = strings.Repeat("r", 60)
		if x, i, e := docs.Make(s, r, d); len(x.Lines) != 2 || size(i.Amount) != limit || e != api.OK {
			t.Errorf("Make = %v, %v, %d", x, i, e)
		}
	}
}

// P28.1: wrong values of the fields, one by one.
func TestWrongFields(t *testing.T) {
	for kind := api.Sale; kind <= api.PaymentOut; kind++ {
		good := invoice(kind, goods("40", 100, "std"), goods("40", 5, ""))
		good.Amount, good.Bank = 100, "10"
		wrong := func(wanted api.Errno, change func(d *api.Doc)) {
			t.Helper()
			d := good
			d.Lines = slices.Clone(good.Lines)
			change(&d)
			if kind >= api.PaymentIn && !reflect.DeepEqual(d.Lines, good.Lines) {
				return
			}
			wantError(t, setup(), rates(t), d, wanted)
		}
		wantError(t, setup(), table(t, "USD"), good, api.ErrCur)
		for _, code := range noCodes {
			wrong(api.ErrName, func(d *api.Doc) { d.Party = code })
			wrong(api.ErrName, func(d *api.Doc) { d.By = code })
			wrong(api.ErrName, func(d *api.Doc) { d.Lines[1].Account = code })
			if kind >= api.PaymentIn {
				wrong(api.ErrName, func(d *api.Doc) { d.Bank = code })
			}
			if code != "" {
				wrong(api.ErrRef, func(d *api.Doc) { d.Lines[1].Code = code })
			}
		}
		for _, cur := range noCurs {
			wrong(api.ErrCur, func(d *api.Doc) { d.Cur = cur })
		}
		for _, day := range noDays {
			wrong(api.ErrDate, func(d *api.Doc) { d.Value = day })
			wrong(api.ErrDate, func(d *api.Doc) { d.Book = day })
		}
		for _, n := range []int{0, -1, 7, 8, most, least} {
			wrong(api.ErrKind, func(d *api.Doc) { d.Kind = n })
		}
		for _, n := range []int{-1, least} {
			wrong(api.ErrArg, func(d *api.Doc) { d.Lines[1].Net = n })
		}
		wrong(api.ErrOver, func(d *api.Doc) { d.Lines[1].Net = limit + 1 })
		wrong(api.ErrOver, func(d *api.Doc) { d.Lines[0].Net = most })
		wrong(api.ErrForm, func(d *api.Doc) { d.Ref = "\x7f" })
		wrong(api.ErrForm, func(d *api.Doc) { d.Ref = strings.Repeat("r", 61) })
		wrong(api.ErrArg, func(d *api.Doc) { d.Lines = nil })
		wrong(api.ErrArg, func(d *api.Doc) { d.Lines = []api.DocLine{} })
		for _, tags := range [][]api.Tag{{{}}, {{Name: "b", Value: "1"}, {Name: "a", Value: "1"}}, {{Name: "a", Value: "*"}}, make([]api.Tag, 7)} {
			wrong(api.ErrTag, func(d *api.Doc) { d.Lines[1].Tags = tags })
		}
	}
}

// P28.1: the errors of the lines of a document come in the order of the lines.
func TestOrderOfLines(t *testing.T) {
	wrongs := map[api.Errno]api.DocLine{api.ErrName: goods("", 1, ""), api.ErrTag: {Account: "40", Net: 1, Tags: make([]api.Tag, 1)}, api.ErrArg: goods("40", -1, "")}
	for e, x := range wrongs {
		for _, y := range wrongs {
			wantError(t, setup(), rates(t), invoice(api.Sale, goods("40", 1, "x"), x, y), e)
		}
	}
	// Those of the taxes come behind them, in the order of the lines, too.
	wantError(t, setup(), rates(t), invoice(api.Sale, goods("40", 1, "x"), goods("40", limit+1, "")), api.ErrRef)
	wantError(t, setup(), rates(t), invoice(api.Sale, goods("40", limit+1, ""), goods("40", 1, "x")), api.ErrOver)
}

// P28.1: an entry has at most 100 lines, and amounts and bases up to the limit.
func TestLimits(t *testing.T) {
	for n, e := range map[int]api.Errno{98: api.OK, 99: api.ErrMany, 200: api.ErrMany, 201: api.ErrMany} {
		if x, _, f := docs.Make(setup(), rates(t), invoice(api.Sale, repeated(n, goods("40", 100, "std"))...)); f != e || e == api.OK && (len(x.Lines) != 100 || x.Lines[0].Amount != 98*119) {
			t.Errorf("with %d lines Make returns %d lines, %d, want %d", n, len(x.Lines), f, e)
		}
	}
	// Lines without an amount do not count.
	wantMake(t, setup(), invoice(api.Sale, append(repeated(199, goods("40", 0, "std")), goods("40", 1, ""))...), 50, of("p", line("12", 1, 1)), line("40", -1, -1))
	for _, kind := range []int{api.Sale, api.SaleBack, api.Purchase, api.PurchBack} {
		// The gross amount is too large, the lines are not; or no sum stays within the limit of sums.
		wantError(t, setup(), rates(t), invoice(kind, goods("40", limit, ""), goods("40", 1, "")), api.ErrOver)
		wantError(t, setup(), rates(t), invoice(kind, goods("40", limit, "std")), api.ErrOver)
		wantError(t, with(api.PerCode, api.Half, taxCode("all", "22", 1, 1)), rates(t), invoice(kind, repeated(200, goods("40", limit, "all"))...), api.ErrMany)
		d := invoice(kind, goods("40", limit/api.MaxPart, ""))
		d.Cur = "BIG"
		if x, i, e := docs.Make(setup(), rates(t), d); len(x.Lines) != 2 || size(i.Base) != limit || e != api.OK {
			t.Errorf("Make = %v, %v, %d", x, i, e)
		}
		// The base of a line is too large for an entry, for a sum, or for an int.
		for _, net := range []int{limit/api.MaxPart + 1, api.MaxSum / api.MaxPart, api.MaxSum/api.MaxPart + 1, limit} {
			d.Lines[0].Net = net
			wantError(t, setup(), rates(t), d, api.ErrOver)
		}
		// An error of Convert comes before those of Check.
		d.By = ""
		wantError(t, setup(), rates(t), d, api.ErrOver)
		d.Lines[0].Net = api.MaxSum / api.MaxPart
		wantError(t, setup(), rates(t), d, api.ErrName)
		d.By, d.Lines = "u", repeated(200, d.Lines[0])
		wantError(t, setup(), rates(t), d, api.ErrMany)
	}
}

// P28.1, rule 6: the arguments stay as they are, and the entry shares no memory with them.
func TestMemory(t *testing.T) {
	tags := []api.Tag{{Name: "dept", Value: "x"}, {Name: "spare", Value: "y"}}
	s, d := setup(), invoice(api.Sale, api.DocLine{Account: "40", Net: 100, Code: "std", Tags: tags[:1]}, api.DocLine{Account: "41", Net: 5, Tags: tags[:1]}, goods("spare", 1, ""))
	d.Lines = d.Lines[:2]
	d.Terms.Cuts = []api.Cut{{Days: 1, F: api.Frac{N: 1, D: 2}}}
	s.Codes = append(s.Codes, taxCode("z", "9", 0, 1))[:1]
	x, _, e := docs.Make(s, rates(t), d)
	if e != api.OK {
		t.Fatal(e)
	}
	if len(tags) != 2 || tags[0].Value != "x" || tags[1].Value != "y" || d.Lines[:3][2].Account != "spare" || d.Lines[0].Net != 100 || s.Codes[:2][1].Account != "9" || d.Terms.Cuts[0].Days != 1 {
		t.Errorf("Make changed its arguments to %v, %v", s, d)
	}
	y, _, _ := docs.Make(s, rates(t), d)
	x.Lines[1].Tags[0].Value = "z"
	_ = append(x.Lines[1].Tags, api.Tag{Name: "z", Value: "z"})
	x.Lines[0].Account = "z"
	if tags[0].Value != "x" || tags[1].Name != "spare" || x.Lines[2].Tags[0].Value != "x" || y.Lines[1].Tags[0].Value != "x" || y.Lines[0].Account != "12" {
		t.Errorf("the entry shares memory: %v, %v, %v", x, y, d)
	}
}

// wantGain fails unless Gain returns this error and nothing else.
func wantGain(t *testing.T, s api.Setup, z api.Settlement, party, cur string, pay bool, book, value int, by string, wanted api.Errno) {
	t.Helper()
	if x, ok, e := docs.Gain(s, z, party, cur, pay, book, value, by); !reflect.DeepEqual(x, api.Entry{}) || ok || e != wanted {
		t.Errorf("Gain(%v, %v, %q, %q, %v, %d, %d, %q) = %v, %v, %d, want %d", s, z, party, cur, pay, book, value, by, x, ok, e, wanted)
	}
}

// P28.2: gains and losses of receivables and payables.
func TestGain(t *testing.T) {
	for _, c := range []struct{ pos, neg, difference int }{
		{107, 110, 3}, {110, 107, -3}, {0, 1, 1}, {1, 0, -1}, {0, limit, limit}, {limit, 0, -limit}, {limit, 2 * limit, limit}, {-5, 5, 10}, {5, -5, -10}, {most, most - 4, -4}, {least, least + 4, 4}, {least, limit + least, limit},
	} {
		for _, pay := range []bool{false, true} {
			control, result := "12", "41"
			if pay {
				control = "21"
			}
			if c.difference < 0 {
				result = "52"
			}
			wanted := api.Entry{Entity: "a", Book: 3, Value: 2, Kind: api.Normal, By: "ann", Lines: []api.Line{of("q", line(control, 0, c.difference)), line(result, 0, -c.difference)}}
			// The numbers, the amount and the day of the settlement do not matter.
			z := api.Settlement{Pos: -1, Neg: least, Amount: -7, Day: -1, PosBase: c.pos, NegBase: c.neg}
			if x, ok, e := docs.Gain(setup(), z, "q", "USD", pay, 3, 2, "ann"); !entry.Same(x, wanted) || !ok || e != api.OK {
				t.Errorf("Gain of %v = %v, %v, %d, want %v", z, x, ok, e, wanted)
			}
		}
	}
}

// P28.2: without a difference there is no entry, and nothing else to check than the setup and the party.
func TestNoGain(t *testing.T) {
	for _, n := range []int{0, 1, -1, limit, most, least} {
		for _, pay := range []bool{false, true} {
			wantGain(t, setup(), api.Settlement{PosBase: n, NegBase: n}, "p", "?", pay, least, most, "", api.OK)
			wantGain(t, setup(), api.Settlement{PosBase: n, NegBase: n}, "p", "USD", pay, 3, 2, "u", api.OK)
			wantGain(t, setup(), api.Settlement{PosBase: n, NegBase: n}, "", "USD", pay, 3, 2, "u", api.ErrName)
		}
	}
}

// P28.2: the errors, in their order.
func TestErrorsOfGain(t *testing.T) {
	for _, z := range []api.Settlement{{PosBase: -1, NegBase: most}, {PosBase: 1, NegBase: least}, {PosBase: most, NegBase: -2}, {PosBase: least}, {PosBase: least, NegBase: most}, {PosBase: most, NegBase: least}} {
		for _, code := range noCodes {
			wantGain(t, setup(), z, code, "?", false, -1, -1, "", api.ErrName)
		}
		wantGain(t, setup(), z, "p", "?", false, -1, -1, "", api.ErrOver)
		wantGain(t, setup(), z, "p", "USD", true, 3, 2, "u", api.ErrOver)
	}
	for _, z := range []api.Settlement{{PosBase: limit + 1}, {NegBase: limit + 1}, {NegBase: least}, {PosBase: 1, NegBase: least + 1}, {NegBase: most}, {PosBase: most}, {PosBase: -limit, NegBase: 1}} {
		for _, pay := range []bool{false, true} {
			wantGain(t, setup(), z, "p", "?", pay, -1, -1, "", api.ErrName)
			wantGain(t, setup(), z, "p", "?", pay, -1, 2, "u", api.ErrDate)
			wantGain(t, setup(), z, "p", "?", pay, 3, -1, "u", api.ErrDate)
			wantGain(t, setup(), z, "p", "?", pay, 3, 2, "u", api.ErrCur)
			wantGain(t, setup(), z, "p", "USD", pay, 3, 2, "u", api.ErrOver)
		}
	}
	z := api.Settlement{NegBase: 1}
	for _, code := range noCodes {
		wantGain(t, setup(), z, code, "USD", false, 3, 2, "u", api.ErrName)
		wantGain(t, setup(), z, "p", "USD", false, 3, 2, code, api.ErrName)
	}
	for _, cur := range noCurs {
		wantGain(t, setup(), z, "p", cur, false, 3, 2, "u", api.ErrCur)
	}
	for _, day := range noDays {
		wantGain(t, setup(), z, "p", "USD", false, day, 2, "u", api.ErrDate)
		wantGain(t, setup(), z, "p", "USD", false, 3, day, "u", api.ErrDate)
	}
}

// nature is what the chapter says of the documents of a kind.
type nature struct {
	payable, isPayment bool
	sign               int // of the control line
}

// natures holds the natures of the kinds, in their order.
var natures = []nature{{}, {false, false, 1}, {false, false, -1}, {true, false, -1}, {true, false, 1}, {false, true, -1}, {true, true, 1}}

// documentError returns the first error of a document of a valid setup that has nothing to do with rates and the entry, as the chapter lists them.
func documentError(s api.Setup, d api.Doc) api.Errno {
	var l []api.TaxLine
	for _, x := range d.Lines {
		l = append(l, api.TaxLine{Amount: x.Net, Code: x.Code})
	}
	if d.Kind < 1 || d.Kind >= len(natures) {
		return api.ErrKind
	}
	if !words.Code(d.Party) {
		return api.ErrName
	}
	if !money.Code(d.Cur) {
		return api.ErrCur
	}
	if d.Value < 0 || d.Value > api.MaxDay {
		return api.ErrDate
	}
	if natures[d.Kind].isPayment {
		switch {
		case d.Amount < 1:
			return api.ErrArg
		case d.Amount > limit:
			return api.ErrOver
		case !words.Code(d.Bank):
			return api.ErrName
		}
		return api.OK
	}
	if len(l) == 0 {
		return api.ErrArg
	}
	for _, x := range d.Lines {
		if !words.Code(x.Account) {
			return api.ErrName
		}
		if !dims.Right(x.Tags) {
			return api.ErrTag
		}
		if x.Net < 0 {
			return api.ErrArg
		}
	}
	nets, sums, e := tax.Of(l, s.Codes, s.Way, s.Mode)
	if e != api.OK {
		return e
	}
	gross := 0
	for _, n := range nets {
		gross += n
	}
	for _, x := range sums {
		gross += x.Tax
	}
	if gross == 0 {
		return api.ErrArg
	}
	_, e = terms.Due(d.Terms, d.Value)
	return e
}

// documentEntry returns the entry of a document without errors as the chapter describes it, apart from the bases.
func documentEntry(s api.Setup, d api.Doc) api.Entry {
	n := natures[d.Kind]
	account := s.Receivable
	if n.payable {
		account = s.Payable
	}
	control := api.Line{Account: account, Cur: d.Cur, Amount: n.sign * d.Amount, Party: d.Party}
	bank := api.Line{Account: d.Bank, Cur: d.Cur, Amount: -n.sign * d.Amount}
	x := api.Entry{Entity: s.Entity, Book: d.Book, Value: d.Value, Kind: api.Normal, Ref: d.Ref, By: d.By}
	if n.isPayment {
		x.Lines = []api.Line{control, bank}
		if d.Kind == api.PaymentIn {
			slices.Reverse(x.Lines)
		}
		return x
	}
	var l []api.TaxLine
	for _, y := range d.Lines {
		l = append(l, api.TaxLine{Amount: y.Net, Code: y.Code})
	}
	nets, sums, _ := tax.Of(l, s.Codes, s.Way, s.Mode)
	accounts := map[string]string{}
	for _, c := range s.Codes {
		accounts[c.Name] = c.Account
	}
	control.Amount = 0
	x.Lines = []api.Line{control}
	for k, y := range d.Lines {
		x.Lines = append(x.Lines, api.Line{Account: y.Account, Cur: d.Cur, Amount: -n.sign * nets[k], Tags: y.Tags})
	}
	for _, y := range sums {
		x.Lines = append(x.Lines, api.Line{Account: accounts[y.Code], Cur: d.Cur, Amount: -n.sign * y.Tax})
	}
	for _, y := range x.Lines[1:] {
		x.Lines[0].Amount -= y.Amount
	}
	x.Lines = slices.DeleteFunc(x.Lines, func(y api.Line) bool { return y.Amount == 0 })
	return x
}

// model returns what Make returns for a valid setup.
func model(s api.Setup, r *fx.Table, d api.Doc) (x api.Entry, i api.OpenItem, e api.Errno) {
	if e := documentError(s, d); e != api.OK {
		return api.Entry{}, api.OpenItem{}, e
	}
	x = documentEntry(s, d)
	at := slices.IndexFunc(x.Lines, func(l api.Line) bool { return l.Party != "" })
	rest := 0
	for k, l := range x.Lines {
		if k != at {
			if x.Lines[k].Base, e = r.Convert(l.Amount, d.Cur, s.Base, api.Closing, d.Value, s.Mode); e != api.OK {
				return api.Entry{}, api.OpenItem{}, e
			}
			rest -= x.Lines[k].Base
		}
	}
	x.Lines[at].Base = rest
	if _, e = entry.Check(x); e != api.OK {
		return api.Entry{}, api.OpenItem{}, e
	}
	due := d.Value
	if !natures[d.Kind].isPayment {
		due, _ = terms.Due(d.Terms, d.Value)
	}
	return x, api.OpenItem{Party: d.Party, Cur: d.Cur, Amount: x.Lines[at].Amount, Base: rest, Day: d.Value, Due: due, Ref: d.Ref}, api.OK
}

// random returns a document of which most fields are right.
func random(r *rand.Rand) api.Doc {
	pick := func(right int, l ...string) string {
		if r.Intn(100) > 0 {
			return l[r.Intn(right)]
		}
		return l[r.Intn(len(l))]
	}
	number := func(right func() int, wrong ...int) int {
		if r.Intn(100) > 0 {
			return right()
		}
		return wrong[r.Intn(len(wrong))]
	}
	amount := func() int { return r.Intn([]int{4, 100, 100000, limit}[r.Intn(4)]) }
	day := func() int { return r.Intn(300) }
	d := api.Doc{Kind: number(func() int { return 1 + r.Intn(6) }, 0, -1, 7), Party: pick(2, "p", "q", "", "p p"), Cur: pick(4, "EUR", "USD", "BIG", "LOW", "AVG", "usd", ""), Bank: pick(2, "10", "11", "", "1 0"), Ref: pick(2, "", "r", "\n"), By: pick(2, "u", "v", "", "u u")}
	d.Book, d.Value, d.Amount = number(day, noDays...), number(day, append(noDays, api.MaxDay)...), number(amount, 0, -1, limit, limit+1, least)
	d.Terms = api.Terms{Net: number(func() int { return r.Intn(366) }, -1, 366), Eom: r.Intn(2) == 0}
	for range number(func() int { return r.Intn(6) }, 97, 98, 99, 100, 199, 200, 201) {
		x := api.DocLine{Account: pick(3, "40", "41", "12", "", "4 0"), Net: number(amount, 0, 0, 0, -1, limit+1), Code: pick(4, "", "low", "off", "std", "x", "s s")}
		if r.Intn(3) == 0 {
			x.Tags = append(x.Tags, api.Tag{Name: pick(2, "a", "b", ""), Value: "1"})
		}
		d.Lines = append(d.Lines, x)
	}
	return d
}

// P28.1: random documents, compared with what the chapter says.
func TestRandomDocuments(t *testing.T) {
	r, table := rand.New(rand.NewSource(28)), rates(t)
	counts := map[api.Errno]int{}
	for range 60000 {
		s := with(1+r.Intn(3), 1+r.Intn(5), taxCode("low", "23", 7, 100), taxCode("off", "24", 0, 1), taxCode("std", "22", 19, 100))
		d := random(r)
		wanted, wantedItem, wantedError := model(s, table, d)
		x, i, e := docs.Make(s, table, d)
		if !entry.Same(x, wanted) || i != wantedItem || e != wantedError {
			t.Fatalf("Make(%v, %v) = %v, %v, %d, want %v, %v, %d", s, d, x, i, e, wanted, wantedItem, wantedError)
		}
		counts[e]++
		if e == api.OK && (!entry.Balanced(x.Lines) || i.Amount == 0 || i.Amount > 0 && i.Base < 0 || i.Amount < 0 && i.Base > 0) {
			t.Fatalf("Make(%v) = %v, %v", d, x, i)
		}
	}
	for _, e := range []api.Errno{api.OK, api.ErrKind, api.ErrName, api.ErrCur, api.ErrDate, api.ErrArg, api.ErrOver, api.ErrTag, api.ErrMany, api.ErrRef, api.ErrRate, api.ErrForm} {
		if counts[e] < 10 {
			t.Errorf("the error %d occurs %d times", e, counts[e])
		}
	}
}
