package parties

import (
	"testing"

	"accounting/api"
	"accounting/chart"
	"accounting/fx"
	"accounting/journal"
	"accounting/locks"
)

// P29.1: a full set. No journal has room for the entries of so many documents, so that this test adds the items without them.
func TestFullSet(t *testing.T) {
	c, _, _ := chart.New(api.Account{Code: "10", Kind: api.Asset, Post: true}, api.Account{Code: "12", Kind: api.Asset, Post: true}, api.Account{Code: "21", Kind: api.Liability, Post: true})
	k, _ := locks.New(api.Calendar{First: 1}, api.Period{Year: 2026, No: 1}, "a")
	j, _ := journal.New(c, k)
	r, _, _ := fx.New("EUR")
	b, e := New(api.Setup{Entity: "a", Base: "EUR", Receivable: "12", Payable: "21", Gain: "41", Loss: "52", Way: api.PerLine, Mode: api.Half}, r, j)
	if e != api.OK {
		t.Fatal(e)
	}
	for range api.MaxSteps - 1 {
		b.payables.Add(api.OpenItem{Party: "p", Cur: "EUR", Amount: 1, Base: 1})
	}
	d := api.Doc{Kind: api.PaymentOut, Party: "p", Cur: "EUR", Book: 46021, Value: 46021, Amount: 1, Bank: "10", By: "u"}
	want := func(no, id int, e api.Errno) {
		t.Helper()
		if n, i, f := b.Post(d); n != no || i != id || f != e {
			t.Errorf("Post(%v) = %d, %d, %d, want %d, %d, %d", d, n, i, f, no, id, e)
		}
	}
	want(1, api.MaxSteps, api.OK)
	want(0, 0, api.ErrMany)
	// The errors of Make come before it, those of the journal behind it.
	d.By = ""
	want(0, 0, api.ErrName)
	d.By, d.Book, d.Bank = "u", 0, "99"
	want(0, 0, api.ErrMany)
	if b.Len(true) != api.MaxSteps || j.Len() != 1 {
		t.Errorf("there are %d items and %d entries", b.Len(true), j.Len())
	}
	// The other set has room.
	d = api.Doc{Kind: api.PaymentIn, Party: "p", Cur: "EUR", Book: 46021, Value: 46021, Amount: 1, Bank: "10", By: "u"}
	want(2, 1, api.OK)
}
