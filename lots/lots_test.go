package lots_test

import (
	"maps"
	"math"
	"math/big"
	"math/rand"
	"slices"
	"strings"
	"testing"

	"accounting/api"
	"accounting/lots"
	"accounting/moves"
)

const most, least, qtyLimit, costLimit, sumLimit = math.MaxInt, math.MinInt, api.MaxQty, api.MaxAmount, api.MaxSum

// move returns a movement of the item x.
func move(seq, kind, qty, cost, ref int) api.Move {
	return api.Move{Seq: seq, Value: 10, Item: "x", Kind: kind, Qty: qty, Cost: cost, Ref: ref}
}

func receipt(seq, qty, cost int, lot string) api.Move {
	return in(lot, move(seq, api.Receipt, qty, cost, 0))
}

func issue(seq, qty int, lot string) api.Move {
	return in(lot, move(seq, api.Issue, qty, 0, 0))
}

func back(seq, qty, ref int) api.Move {
	return move(seq, api.Back, qty, 0, ref)
}

func send(seq, qty, cost, ref int) api.Move {
	return move(seq, api.Send, qty, cost, ref)
}

func landed(seq, cost, ref int) api.Move {
	return move(seq, api.Landed, 0, cost, ref)
}

// in returns a movement of a lot.
func in(lot string, m api.Move) api.Move {
	m.Lot = lot
	return m
}

// same reports whether two states are equal.
func same(a, b api.Stock) bool {
	return a.Qty == b.Qty && a.Value == b.Value && a.Price == b.Price && slices.Equal(a.Layers, b.Layers) && slices.Equal(a.Past, b.Past)
}

// copied returns a state that shares no memory with s.
func copied(s api.Stock) api.Stock {
	s.Layers, s.Past = slices.Clone(s.Layers), slices.Clone(s.Past)
	return s
}

// try fails unless Step returns this cost and this error, and with an error nothing else.
func try(t *testing.T, s api.Stock, m api.Move, wanted api.Cost, e api.Errno) api.Stock {
	t.Helper()
	next, c, f := lots.Step(s, m)
	if c != wanted || f != e {
		t.Fatalf("Step(%v) = %v, %d, want %v, %d", m, c, f, wanted, e)
	}
	if e != api.OK && !same(next, api.Stock{}) {
		t.Fatalf("Step(%v) = %v, %d", m, next, f)
	}
	return next
}

// refuse fails unless Step returns this error.
func refuse(t *testing.T, s api.Stock, m api.Move, e api.Errno) {
	t.Helper()
	try(t, s, m, api.Cost{}, e)
}

// run returns the state after movements without errors.
func run(t *testing.T, s api.Stock, l ...api.Move) api.Stock {
	t.Helper()
	for _, m := range l {
		next, _, e := lots.Step(s, m)
		if e != api.OK {
			t.Fatalf("Step(%v) = %d", m, e)
		}
		s = next
	}
	return s
}

// wantStock fails unless a state has this quantity and value, and these layers.
func wantStock(t *testing.T, s api.Stock, qty, value int, layers ...api.Layer) {
	t.Helper()
	if s.Qty != qty || s.Value != value || !slices.Equal(s.Layers, layers) {
		t.Errorf("the stock is %d, %d, %v, want %d, %d, %v", s.Qty, s.Value, s.Layers, qty, value, layers)
	}
}

// lot returns a layer.
func lot(name string, qty, value int) api.Layer {
	return api.Layer{Lot: name, Qty: qty, Value: value}
}

// P37.1: the chapter's examples.
func TestExamples(t *testing.T) {
	s := try(t, api.Stock{}, receipt(1, 4, 10, "b"), api.Cost{Seq: 1, Qty: 4, Value: 10}, api.OK)
	s = try(t, s, receipt(2, 2, 8, "a"), api.Cost{Seq: 2, Qty: 2, Value: 8}, api.OK)
	wantStock(t, s, 6, 18, lot("a", 2, 8), lot("b", 4, 10))
	s = try(t, s, issue(3, 1, "b"), api.Cost{Seq: 3, Qty: -1, Value: -2}, api.OK)
	wantStock(t, s, 5, 16, lot("a", 2, 8), lot("b", 3, 8))
	refuse(t, s, issue(4, 1, "c"), api.ErrItem)
	refuse(t, s, issue(4, 4, "b"), api.ErrQty)
	s = try(t, s, landed(4, 6, 1), api.Cost{Seq: 4, Value: 4, Var: 2}, api.OK)
	wantStock(t, s, 5, 20, lot("a", 2, 8), lot("b", 3, 12))
	wanted := []api.Past{{Seq: 1, Kind: api.Receipt, Lot: "b", Qty: 4, Value: 10}, {Seq: 2, Kind: api.Receipt, Lot: "a", Qty: 2, Value: 8}, {Seq: 3, Kind: api.Issue, Lot: "b", Qty: 1, Value: 2}}
	if !slices.Equal(s.Past, wanted) {
		t.Errorf("Past is %v, want %v", s.Past, wanted)
	}
}

// P37.1: a lot that is used in parts, with halves rounded to the even integer.
func TestParts(t *testing.T) {
	for _, c := range []struct {
		qty, cost int
		taken     []int
		values    []int
	}{
		{2, 1, []int{1, 1}, []int{0, 1}}, {2, 3, []int{1, 1}, []int{2, 1}}, {2, 5, []int{1, 1}, []int{2, 3}}, {2, 7, []int{1, 1}, []int{4, 3}},
		{4, 10, []int{1, 1, 1, 1}, []int{2, 3, 2, 3}}, {3, 10, []int{1, 2}, []int{3, 7}}, {3, 10, []int{2, 1}, []int{7, 3}}, {3, 0, []int{1, 1, 1}, []int{0, 0, 0}}, {5, 3, []int{4, 1}, []int{2, 1}},
		{qtyLimit, costLimit, []int{1, qtyLimit - 1}, []int{1000, costLimit - 1000}}, {qtyLimit, costLimit - 1, []int{qtyLimit / 2, qtyLimit / 2}, []int{costLimit / 2, costLimit/2 - 1}},
		{qtyLimit, 3, []int{qtyLimit / 2, qtyLimit / 2}, []int{2, 1}}, {7, 3, []int{7}, []int{3}},
	} {
		issued := run(t, api.Stock{}, receipt(1, c.qty, c.cost, "l"))
		sent, qty, value := issued, c.qty, c.cost
		for i, n := range c.taken {
			if qty < qtyLimit {
				refuse(t, issued, issue(2+i, qty+1, "l"), api.ErrQty)
			}
			issued = try(t, issued, issue(2+i, n, "l"), api.Cost{Seq: 2 + i, Qty: -n, Value: -c.values[i]}, api.OK)
			sent = try(t, sent, send(2+i, n, 5, 1), api.Cost{Seq: 2 + i, Qty: -n, Value: -c.values[i], Var: c.values[i] - 5}, api.OK)
			qty, value = qty-n, value-c.values[i]
			if qty > 0 {
				wantStock(t, issued, qty, value, lot("l", qty, value))
				wantStock(t, sent, qty, value, lot("l", qty, value))
			}
		}
		// A lot that is used up is gone.
		wantStock(t, issued, 0, 0)
		wantStock(t, sent, 0, 0)
		refuse(t, issued, issue(9, 1, "l"), api.ErrItem)
		refuse(t, sent, send(9, 1, 0, 1), api.ErrQty)
	}
}

// P37.1, P37.2: lots are kept in the order of their names, whatever the order of the receipts, and those of one lot are added.
func TestLots(t *testing.T) {
	s := run(t, api.Stock{Price: 9}, receipt(1, 2, 20, "m"), receipt(2, 3, 31, "z"), receipt(3, 1, 0, "B"), receipt(4, 4, 40, "a"), receipt(5, 5, 52, "n"))
	wantStock(t, s, 15, 143, lot("B", 1, 0), lot("a", 4, 40), lot("m", 2, 20), lot("n", 5, 52), lot("z", 3, 31))
	s = run(t, s, receipt(6, 5, 1, "m"), receipt(7, 1, 1, "mm"), receipt(8, 2, 7, "B"), receipt(9, 1, 9, "z"))
	wantStock(t, s, 24, 161, lot("B", 3, 7), lot("a", 4, 40), lot("m", 7, 21), lot("mm", 1, 1), lot("n", 5, 52), lot("z", 4, 40))
	s = run(t, s, issue(10, 4, "a"), issue(11, 4, "z"), issue(12, 3, "B"), issue(13, 1, "mm"))
	wantStock(t, s, 12, 73, lot("m", 7, 21), lot("n", 5, 52))
	// What comes back is in the lot of its issue, also if this was used up, or has come in again.
	s = try(t, s, back(14, 1, 12), api.Cost{Seq: 14, Qty: 1, Value: 2}, api.OK)
	s = try(t, s, back(15, 3, 11), api.Cost{Seq: 15, Qty: 3, Value: 30}, api.OK)
	wantStock(t, s, 16, 105, lot("B", 1, 2), lot("m", 7, 21), lot("n", 5, 52), lot("z", 3, 30))
	s = run(t, s, receipt(16, 1, 4, "mm"))
	s = try(t, s, back(17, 1, 13), api.Cost{Seq: 17, Qty: 1, Value: 1}, api.OK)
	s = run(t, s, issue(18, 7, "m"), issue(19, 2, "n"))
	wantStock(t, s, 9, 68, lot("B", 1, 2), lot("mm", 2, 5), lot("n", 3, 31), lot("z", 3, 30))
	if s.Price != 9 {
		t.Errorf("the price is %d", s.Price)
	}
}

// P37.1: the share of an issue, of which the last returned units have all that is left.
func TestShares(t *testing.T) {
	for _, c := range []struct {
		qty, cost int
		returned  []int
		values    []int
	}{
		{5, 14, []int{2, 3}, []int{6, 8}}, {2, 1, []int{1, 1}, []int{0, 1}}, {2, 3, []int{1, 1}, []int{2, 1}}, {2, 7, []int{1, 1}, []int{4, 3}}, {3, 10, []int{1, 1, 1}, []int{3, 4, 3}}, {4, 10, []int{1, 2, 1}, []int{2, 5, 3}}, {7, 3, []int{7}, []int{3}},
		{qtyLimit, costLimit, []int{1, qtyLimit - 1}, []int{1000, costLimit - 1000}}, {3, 0, []int{2, 1}, []int{0, 0}},
	} {
		s := run(t, api.Stock{}, receipt(1, c.qty, c.cost, "l"), issue(2, c.qty, "l"))
		left, qty, value := c.qty, 0, 0
		for i, n := range c.returned {
			if left < qtyLimit {
				refuse(t, s, back(3+i, left+1, 2), api.ErrQty)
			}
			s = try(t, s, back(3+i, n, 2), api.Cost{Seq: 3 + i, Qty: n, Value: c.values[i]}, api.OK)
			left, qty, value = left-n, qty+n, value+c.values[i]
			wantStock(t, s, qty, value, lot("l", qty, value))
		}
		refuse(t, s, back(9, 1, 2), api.ErrQty)
	}
}

// P37.1, P37.2: returns to the supplier take from the lot of the receipt, at the value of the lot.
func TestSend(t *testing.T) {
	s := run(t, api.Stock{}, receipt(1, 4, 40, "a"), receipt(2, 4, 80, "a"), receipt(3, 4, 7, "b"), issue(4, 5, "a"))
	wantStock(t, s, 7, 52, lot("a", 3, 45), lot("b", 4, 7))
	for _, credit := range []int{0, 15, 16, 14, costLimit} {
		sent := try(t, s, send(5, 1, credit, 1), api.Cost{Seq: 5, Qty: -1, Value: -15, Var: 15 - credit}, api.OK)
		wantStock(t, sent, 6, 37, lot("a", 2, 30), lot("b", 4, 7))
	}
	refuse(t, s, send(5, 4, 1, 1), api.ErrQty)
	s = try(t, s, send(5, 3, 45, 2), api.Cost{Seq: 5, Qty: -3, Value: -45}, api.OK)
	wantStock(t, s, 4, 7, lot("b", 4, 7))
	refuse(t, s, send(6, 1, 1, 1), api.ErrQty)
	refuse(t, s, send(6, 1, 1, 2), api.ErrQty)
	s = run(t, s, back(6, 5, 4))
	refuse(t, s, send(7, 2, 1, 2), api.ErrQty)
	s = try(t, s, send(7, 1, 1, 2), api.Cost{Seq: 7, Qty: -1, Value: -15, Var: 14}, api.OK)
	s = try(t, s, send(8, 4, 1, 1), api.Cost{Seq: 8, Qty: -4, Value: -60, Var: 59}, api.OK)
	wanted := []api.Past{{Seq: 1, Kind: api.Receipt, Lot: "a", Qty: 4, Value: 40, Used: 4}, {Seq: 2, Kind: api.Receipt, Lot: "a", Qty: 4, Value: 80, Used: 4}, {Seq: 3, Kind: api.Receipt, Lot: "b", Qty: 4, Value: 7}, {Seq: 4, Kind: api.Issue, Lot: "a", Qty: 5, Value: 75, Used: 5, UsedValue: 75}}
	if !slices.Equal(s.Past, wanted) {
		t.Errorf("Past is %v, want %v", s.Past, wanted)
	}
}

// P37.1, P37.2: landed costs of a receipt, of which at most the lot is left, with halves rounded to the even integer.
func TestLanded(t *testing.T) {
	for _, c := range []struct{ qty, left, cost, value int }{
		{2, 1, 1, 0}, {2, 1, 3, 2}, {2, 1, 5, 2}, {2, 1, 7, 4}, {3, 1, 2, 1}, {3, 2, 2, 1}, {3, 1, 1, 0}, {3, 3, 5, 5}, {3, 0, 5, 0}, {4, 3, 6, 4}, {4, 3, 2, 2}, {10, 7, 30, 21}, {qtyLimit, 1, costLimit, 1000}, {qtyLimit, qtyLimit - 1, costLimit, costLimit - 1000}, {1, 1, costLimit, costLimit}, {qtyLimit, 1, 1, 0}, {1, 0, costLimit, 0},
	} {
		s := run(t, api.Stock{}, receipt(1, c.qty, 9, "l"))
		if c.left < c.qty {
			s = run(t, s, issue(2, c.qty-c.left, "l"))
		}
		value := s.Value
		s = try(t, s, landed(3, c.cost, 1), api.Cost{Seq: 3, Value: c.value, Var: c.cost - c.value}, api.OK)
		if c.left == 0 {
			wantStock(t, s, 0, 0)
			continue
		}
		wantStock(t, s, c.left, value+c.value, lot("l", c.left, value+c.value))
	}
	// Other receipts of the lot count as if they were this one, and those of other lots do not; what was sent to the supplier still counts in the quantity of the receipt.
	s := run(t, api.Stock{}, receipt(1, 2, 10, "b"), receipt(2, 7, 70, "b"), receipt(3, 9, 90, "a"))
	wantStock(t, try(t, s, landed(4, 5, 1), api.Cost{Seq: 4, Value: 5}, api.OK), 18, 175, lot("a", 9, 90), lot("b", 9, 85))
	s = run(t, s, send(4, 7, 0, 2))
	wantStock(t, try(t, s, landed(5, 7, 2), api.Cost{Seq: 5, Value: 2, Var: 5}, api.OK), 11, 110, lot("a", 9, 90), lot("b", 2, 20))
	s = run(t, s, issue(5, 2, "b"))
	wantStock(t, try(t, s, landed(6, 7, 2), api.Cost{Seq: 6, Var: 7}, api.OK), 9, 90, lot("a", 9, 90))
}

// P37.1: the quantity in stock and its value at the limits, also if no lot is at them.
func TestLimits(t *testing.T) {
	for _, other := range []string{"a", "b"} {
		s := run(t, api.Stock{}, receipt(1, qtyLimit-1, 5, "a"))
		refuse(t, s, receipt(2, 2, 5, other), api.ErrOver)
		refuse(t, s, receipt(2, qtyLimit, 5, other), api.ErrOver)
		full := run(t, s, receipt(2, 1, 5, other))
		refuse(t, full, receipt(3, 1, 0, other), api.ErrOver)
		s = run(t, full, issue(3, 2, "a"), receipt(4, 1, 0, other))
		refuse(t, s, back(5, 2, 3), api.ErrOver)
		run(t, s, back(5, 1, 3))
		var rich api.Stock
		for i := range 999 {
			rich = run(t, rich, receipt(10+i, 1, costLimit, "a"))
		}
		refuse(t, run(t, rich, receipt(1, 1, costLimit-1, other)), receipt(2, 1, 2, other), api.ErrOver)
		rich = run(t, rich, receipt(1, 1, costLimit, other))
		if rich.Qty != 1000 || rich.Value != sumLimit {
			t.Errorf("the stock is %d, %d", rich.Qty, rich.Value)
		}
		refuse(t, rich, receipt(2, 1, 1, "a"), api.ErrOver)
		refuse(t, rich, receipt(2, 1, costLimit, other), api.ErrOver)
		refuse(t, rich, landed(2, 1, 10), api.ErrOver)
		refuse(t, rich, landed(2, costLimit, 1), api.ErrOver)
		run(t, rich, receipt(2, 1, 0, other))
	}
	// Everything is issued and returned at once, at the limit and above it.
	var rich api.Stock
	for i := range 1000 {
		rich = run(t, rich, receipt(10+i, 1, costLimit, "a"))
	}
	wantStock(t, rich, 1000, sumLimit, lot("a", 1000, sumLimit))
	s := try(t, rich, issue(2, 1000, "a"), api.Cost{Seq: 2, Qty: -1000, Value: -sumLimit}, api.OK)
	wantStock(t, run(t, s, back(3, 1000, 2)), 1000, sumLimit, lot("a", 1000, sumLimit))
	s = run(t, s, receipt(3, 1, 1, "b"))
	refuse(t, s, back(4, 1000, 2), api.ErrOver)
	try(t, s, back(4, 999, 2), api.Cost{Seq: 4, Qty: 999, Value: sumLimit / 1000 * 999}, api.OK)
	// One receipt takes the value of all others with it.
	s = run(t, rich, issue(2, 999, "a"))
	wantStock(t, try(t, s, send(3, 1, 0, 10), api.Cost{Seq: 3, Qty: -1, Value: -costLimit, Var: costLimit}, api.OK), 0, 0)
}

// P37.1: the error of One, whatever the state is.
func TestErrorsOfOne(t *testing.T) {
	states := []api.Stock{{}, run(t, api.Stock{}, receipt(1, 5, 50, "a"), issue(2, 2, "a")), run(t, api.Stock{}, receipt(2, qtyLimit, 50, "a"))}
	long := strings.Repeat("a", 13)
	for _, m := range []api.Move{receipt(1, 5, 50, "a"), issue(1, 2, "a"), receipt(1, 5, 50, ""), issue(1, 2, ""), back(1, 1, 2), send(1, 1, 5, 1), landed(1, 5, 1), move(1, api.Reprice, 0, 5, 0)} {
		for _, change := range []func(m *api.Move){
			func(m *api.Move) { m.Value = -1 },
			func(m *api.Move) { m.Value = api.MaxDay + 1 },
			func(m *api.Move) { m.Item = "" },
			func(m *api.Move) { m.Item = long },
			func(m *api.Move) { m.Kind = 0 },
			func(m *api.Move) { m.Kind = 7 },
			func(m *api.Move) { m.Qty = -1 },
			func(m *api.Move) { m.Qty = qtyLimit + 1 },
			func(m *api.Move) { m.Cost = -1 },
			func(m *api.Move) { m.Cost = costLimit + 1 },
			func(m *api.Move) { m.Lot = long },
			func(m *api.Move) { m.Ref = -1 },
		} {
			x := m
			change(&x)
			e := moves.One(x)
			if e == api.OK {
				t.Fatalf("One(%v) = 0", x)
			}
			for _, s := range states {
				refuse(t, s, x, e)
			}
		}
	}
}

// P37.1: each other error, and its place before those that follow it.
func TestErrors(t *testing.T) {
	s := run(t, api.Stock{}, receipt(1, 5, 50, "a"), issue(2, 4, "a"), receipt(3, qtyLimit-2, 7, "b"), back(9, 1, 2))
	wantStock(t, s, qtyLimit, 27, lot("a", 2, 20), lot("b", qtyLimit-2, 7))
	for _, seq := range []int{1, 2, 3} {
		for _, m := range []api.Move{receipt(seq, 1, 1, "a"), receipt(seq, 1, 1, ""), receipt(seq, qtyLimit, 1, "a"), issue(seq, 1, "a"), issue(seq, 1, "c"), issue(seq, 1, ""), issue(seq, 9, "a"), back(seq, 1, 2), back(seq, 9, 2), back(seq, 1, 99), send(seq, 1, 1, 1), send(seq, 1, 1, 99), send(seq, 9, 1, 1), landed(seq, 1, 1), landed(seq, 1, 99), move(seq, api.Reprice, 0, 5, 0)} {
			refuse(t, s, m, api.ErrTwice)
		}
	}
	// Only receipts and issues are in Past, and any other number is free.
	for _, seq := range []int{0, 4, 9, -1, most, least} {
		try(t, s, landed(seq, 10, 1), api.Cost{Seq: seq, Value: 4, Var: 6}, api.OK)
	}
	for _, ref := range []int{1, 3, 4, 9, 99, most} {
		refuse(t, s, back(4, 1, ref), api.ErrRef)
		refuse(t, s, back(4, qtyLimit, ref), api.ErrRef)
	}
	for _, ref := range []int{2, 4, 9, 99, most} {
		refuse(t, s, send(4, 1, 1, ref), api.ErrRef)
		refuse(t, s, send(4, qtyLimit, 1, ref), api.ErrRef)
		refuse(t, s, landed(4, 1, ref), api.ErrRef)
	}
	// More than is left of the issue comes before a stock that is too large, and so does the lot.
	refuse(t, s, back(4, 4, 2), api.ErrQty)
	refuse(t, s, back(4, qtyLimit, 2), api.ErrQty)
	refuse(t, s, back(4, 3, 2), api.ErrOver)
	refuse(t, s, back(4, 1, 2), api.ErrOver)
	refuse(t, s, receipt(4, 1, 1, "a"), api.ErrOver)
	refuse(t, s, receipt(4, 1, 1, "c"), api.ErrOver)
	refuse(t, s, receipt(4, 1, 1, ""), api.ErrItem)
	refuse(t, s, receipt(4, qtyLimit, costLimit, ""), api.ErrItem)
	refuse(t, api.Stock{}, receipt(1, 1, 0, ""), api.ErrItem)
	for _, name := range []string{"", "A", "aa", "c", "0"} {
		refuse(t, s, issue(4, 1, name), api.ErrItem)
		refuse(t, s, issue(4, qtyLimit, name), api.ErrItem)
		refuse(t, api.Stock{}, issue(1, 1, name), api.ErrItem)
	}
	refuse(t, s, issue(4, 3, "a"), api.ErrQty)
	refuse(t, s, issue(4, qtyLimit-1, "b"), api.ErrQty)
	run(t, s, issue(4, 2, "a"))
	run(t, s, issue(4, qtyLimit-2, "b"))
	refuse(t, s, send(4, 3, 1, 1), api.ErrQty)
	refuse(t, s, send(4, 6, 1, 1), api.ErrQty)
	run(t, s, send(4, 2, 1, 1))
	for _, cost := range []int{0, 1, costLimit} {
		refuse(t, s, move(4, api.Reprice, 0, cost, 0), api.ErrKind)
		refuse(t, api.Stock{}, move(4, api.Reprice, 0, cost, 0), api.ErrKind)
	}
	refuse(t, api.Stock{}, back(1, 1, 1), api.ErrRef)
	refuse(t, api.Stock{}, send(1, 1, 0, 1), api.ErrRef)
	refuse(t, api.Stock{}, landed(1, 1, 1), api.ErrRef)
}

// model has the movements that were processed and their costs; it derives the rest from them.
type model struct {
	done  []api.Move
	costs []api.Cost
	price int
}

// rounded returns a · b / c, rounded to the nearest integer, halves to the even one.
func rounded(a, b, c int) int {
	x := new(big.Rat).SetFrac(new(big.Int).Mul(big.NewInt(int64(a)), big.NewInt(int64(b))), big.NewInt(int64(c)))
	below, rest := new(big.Int).DivMod(x.Num(), x.Denom(), new(big.Int))
	n := int(below.Int64())
	if half := rest.Lsh(rest, 1).Cmp(x.Denom()); half > 0 || half == 0 && n%2 != 0 {
		n++
	}
	return n
}

// share returns a value if these are all units, and otherwise the rounded part of it.
func share(value, qty, all int) int {
	if qty == all {
		return value
	}
	return rounded(value, qty, all)
}

// returned returns the quantity and the value of what was returned by movements of this kind.
func (x *model) returned(kind, ref int) (qty, value int) {
	for i, m := range x.done {
		if m.Kind == kind && m.Ref == ref {
			qty, value = qty+m.Qty, value+x.costs[i].Value
		}
	}
	return qty, value
}

// lotOf returns the lot of a movement, which can be that of another one.
func (x *model) lotOf(m api.Move) string {
	for _, d := range x.done {
		if m.Ref != 0 && d.Seq == m.Ref && d.Ref == 0 {
			return d.Lot
		}
	}
	return m.Lot
}

// stock returns the state.
func (x *model) stock() (s api.Stock) {
	s.Price = x.price
	lots := map[string]api.Layer{}
	for i, m := range x.done {
		c, name := x.costs[i], x.lotOf(m)
		s.Qty, s.Value = s.Qty+c.Qty, s.Value+c.Value
		lots[name] = lot(name, lots[name].Qty+c.Qty, lots[name].Value+c.Value)
		switch m.Kind {
		case api.Receipt:
			used, _ := x.returned(api.Send, m.Seq)
			s.Past = append(s.Past, api.Past{Seq: m.Seq, Kind: m.Kind, Lot: m.Lot, Qty: m.Qty, Value: m.Cost, Used: used})
		case api.Issue:
			used, value := x.returned(api.Back, m.Seq)
			s.Past = append(s.Past, api.Past{Seq: m.Seq, Kind: m.Kind, Lot: m.Lot, Qty: m.Qty, Value: -c.Value, Used: used, UsedValue: value})
		}
	}
	for _, name := range slices.Sorted(maps.Keys(lots)) {
		if lots[name].Qty > 0 {
			s.Layers = append(s.Layers, lots[name])
		}
	}
	return s
}

// find returns the receipt or issue with this number.
func (x *model) find(kind, seq int) (p api.Past, ok bool) {
	for _, p := range x.stock().Past {
		if p.Kind == kind && p.Seq == seq {
			return p, true
		}
	}
	return api.Past{}, false
}

// step processes a movement.
func (x *model) step(m api.Move) (c api.Cost, e api.Errno) {
	if e = moves.One(m); e != api.OK {
		return c, e
	}
	for _, d := range x.done {
		if d.Seq == m.Seq && (d.Kind == api.Receipt || d.Kind == api.Issue) {
			return c, api.ErrTwice
		}
	}
	s := x.stock()
	c, e = x.cost(s, m)
	if e == api.OK && (s.Qty+c.Qty > qtyLimit || s.Value+c.Value > sumLimit) {
		e = api.ErrOver
	}
	if e != api.OK {
		return api.Cost{}, e
	}
	x.done, x.costs = append(x.done, m), append(x.costs, c)
	return c, api.OK
}

// cost returns the costs of a movement.
func (x *model) cost(s api.Stock, m api.Move) (c api.Cost, e api.Errno) {
	of := map[int]int{api.Back: api.Issue, api.Send: api.Receipt, api.Landed: api.Receipt}[m.Kind]
	p, ok := x.find(of, m.Ref)
	if of != 0 && !ok {
		return c, api.ErrRef
	}
	if of != 0 && m.Qty > p.Qty-p.Used {
		return c, api.ErrQty
	}
	var layer api.Layer
	for _, l := range s.Layers {
		if l.Lot == x.lotOf(m) {
			layer = l
		}
	}
	switch m.Kind {
	case api.Receipt:
		if m.Lot == "" {
			return c, api.ErrItem
		}
		return api.Cost{Seq: m.Seq, Qty: m.Qty, Value: m.Cost}, api.OK
	case api.Back:
		return api.Cost{Seq: m.Seq, Qty: m.Qty, Value: share(p.Value-p.UsedValue, m.Qty, p.Qty-p.Used)}, api.OK
	case api.Issue:
		if layer.Qty == 0 {
			return c, api.ErrItem
		}
		if layer.Qty < m.Qty {
			return c, api.ErrQty
		}
		return api.Cost{Seq: m.Seq, Qty: -m.Qty, Value: -share(layer.Value, m.Qty, layer.Qty)}, api.OK
	case api.Send:
		if layer.Qty < m.Qty {
			return c, api.ErrQty
		}
		value := share(layer.Value, m.Qty, layer.Qty)
		return api.Cost{Seq: m.Seq, Qty: -m.Qty, Value: -value, Var: value - m.Cost}, api.OK
	case api.Landed:
		value := rounded(m.Cost, min(layer.Qty, p.Qty), p.Qty)
		return api.Cost{Seq: m.Seq, Value: value, Var: m.Cost - value}, api.OK
	}
	return c, api.ErrKind
}

// random returns the next of some movements. It often has an error, and sometimes the number of another one.
func random(r *rand.Rand, seq int) api.Move {
	kinds := []int{api.Receipt, api.Receipt, api.Receipt, api.Issue, api.Issue, api.Issue, api.Back, api.Back, api.Send, api.Send, api.Landed, api.Reprice}
	m := move(seq, kinds[r.Intn(len(kinds))], 0, 0, 0)
	if r.Intn(10) == 0 {
		m.Seq = 1 + r.Intn(seq)
	}
	sizes := []int{3, 10, 100, qtyLimit}
	switch m.Kind {
	case api.Receipt, api.Issue, api.Back, api.Send:
		m.Qty = 1 + r.Intn(sizes[r.Intn(1+r.Intn(4))])
	}
	switch m.Kind {
	case api.Receipt, api.Send, api.Landed, api.Reprice:
		m.Cost = 1 + r.Intn([]int{20, 1000, costLimit}[r.Intn(3)])
	}
	switch m.Kind {
	case api.Back, api.Send, api.Landed:
		m.Ref = 1 + r.Intn(seq)
	case api.Receipt, api.Issue:
		m.Lot = []string{"b", "a", "c", "b", "a", "b", ""}[r.Intn(1+r.Intn(7))]
	}
	if r.Intn(40) == 0 {
		m.Qty = r.Intn(2) * m.Qty * -1
	}
	return m
}

// conserves fails unless the stock is the sum of its lots, the costs are those of the movement, and at most one lot has changed.
func conserves(t *testing.T, before, s api.Stock, m api.Move, c api.Cost) {
	t.Helper()
	qty, value := 0, 0
	for _, l := range s.Layers {
		qty, value = qty+l.Qty, value+l.Value
		if l.Qty <= 0 || l.Value < 0 || l.Lot == "" {
			t.Fatalf("there is a lot %v", l)
		}
	}
	changed := map[string]bool{}
	for _, l := range slices.Concat(before.Layers, s.Layers) {
		if slices.Contains(before.Layers, l) != slices.Contains(s.Layers, l) {
			changed[l.Lot] = true
		}
	}
	if len(changed) > 1 {
		t.Fatalf("the movement %v changed %v to %v", m, before, s)
	}
	if s.Qty != qty || s.Value != value {
		t.Fatalf("the lots of %v have %d, %d", s, qty, value)
	}
	wanted := map[int]int{api.Receipt: m.Cost, api.Landed: m.Cost, api.Send: -m.Cost, api.Issue: c.Value, api.Back: c.Value}
	if c.Value+c.Var != wanted[m.Kind] {
		t.Fatalf("the movement %v costs %v", m, c)
	}
}

// P37.1, P37.2: random movements, compared with the model.
func TestRandom(t *testing.T) {
	r := rand.New(rand.NewSource(37))
	seen := map[api.Errno]int{}
	for range 400 {
		x := &model{price: r.Intn(3)}
		s := api.Stock{Price: x.price}
		for seq := 1; seq <= 60; seq++ {
			m := random(r, seq)
			before := copied(s)
			c, e := x.step(m)
			seen[e]++
			next := try(t, s, m, c, e)
			if !same(s, before) {
				t.Fatalf("Step(%v) changed %v to %v", m, before, s)
			}
			if e != api.OK {
				continue
			}
			if !same(next, x.stock()) {
				t.Fatalf("Step(%v, %v) = %v, want %v", s, m, next, x.stock())
			}
			conserves(t, s, next, m, c)
			s = next
		}
	}
	for _, e := range []api.Errno{api.OK, api.ErrTwice, api.ErrItem, api.ErrRef, api.ErrQty, api.ErrKind, api.ErrOver, api.ErrRange} {
		if seen[e] < 50 {
			t.Errorf("the error %d occurred %d times", e, seen[e])
		}
	}
}

// P37.1: the state that was given stays as it is, with what lies behind its lists in memory, and results are new.
func TestMemory(t *testing.T) {
	s := run(t, api.Stock{Price: 3}, receipt(1, 4, 10, "a"), receipt(2, 2, 8, "b"), receipt(3, 5, 7, "c"), issue(4, 3, "a"))
	behind := api.Stock{Qty: s.Qty, Value: s.Value, Price: s.Price}
	behind.Layers = append(slices.Clone(s.Layers), api.Layer{Seq: -1}, api.Layer{Seq: -2})[:len(s.Layers)]
	behind.Past = append(slices.Clone(s.Past), api.Past{Seq: -1}, api.Past{Seq: -2})[:len(s.Past)]
	for _, m := range []api.Move{receipt(5, 1, 9, "b"), receipt(5, 1, 9, "0"), receipt(5, 1, 9, "bb"), receipt(5, 1, 9, "d"), issue(5, 1, "a"), issue(5, 2, "b"), issue(5, 3, "c"), back(5, 2, 4), send(5, 1, 1, 1), send(5, 2, 1, 2), send(5, 5, 1, 3), landed(5, 9, 2), landed(5, 9, 1), issue(5, 9, "a"), move(5, api.Reprice, 0, 4, 0)} {
		first, c, e := lots.Step(behind, m)
		second, d, f := lots.Step(behind, m)
		if c != d || e != f || e == api.OK && first.Price != 3 {
			t.Errorf("Step(%v) = %v, %v, %d, then %v, %d", m, first, c, e, d, f)
		}
		kept := copied(second)
		for i := range first.Layers {
			first.Layers[i].Value = -9
		}
		for i := range first.Past {
			first.Past[i].Value = -9
		}
		_, _ = append(first.Layers, api.Layer{Seq: 9}), append(first.Past, api.Past{Seq: 9})
		if !same(second, kept) || !same(behind, s) {
			t.Errorf("Step(%v) shares memory: %v, %v", m, second, behind)
		}
		layers, list := behind.Layers[:len(s.Layers)+2], behind.Past[:len(s.Past)+2]
		if layers[len(s.Layers)].Seq != -1 || layers[len(s.Layers)+1].Seq != -2 || list[len(s.Past)].Seq != -1 || list[len(s.Past)+1].Seq != -2 {
			t.Errorf("Step(%v) wrote behind %v, %v", m, layers, list)
		}
	}
}

// P37.1: Step terminates without a panic for states that no Step returned.
func TestOtherStates(t *testing.T) {
	r := rand.New(rand.NewSource(38))
	numbers := []int{0, 1, 2, 3, 5, -1, -3, qtyLimit, most, least, least + 1}
	number := func() int { return numbers[r.Intn(len(numbers))] }
	for range 50000 {
		s := api.Stock{Qty: number(), Value: number(), Price: number()}
		names := []string{"", "a", "b", "c"}
		for range r.Intn(4) {
			s.Layers = append(s.Layers, api.Layer{Seq: r.Intn(3), Lot: names[r.Intn(4)], Qty: number(), Value: number()})
			s.Past = append(s.Past, api.Past{Seq: r.Intn(3), Kind: r.Intn(4), Lot: names[r.Intn(4)], Qty: number(), Value: number(), Used: number(), UsedValue: number()})
		}
		lots.Step(s, random(r, 1+r.Intn(5)))
	}
}
