package fifo_test

import (
	"math"
	"math/big"
	"math/rand"
	"slices"
	"strings"
	"testing"

	"accounting/api"
	"accounting/fifo"
	"accounting/moves"
)

const most, least, qtyLimit, costLimit, sumLimit = math.MaxInt, math.MinInt, api.MaxQty, api.MaxAmount, api.MaxSum

// move returns a movement of the item x.
func move(seq, kind, qty, cost, ref int) api.Move {
	return api.Move{Seq: seq, Value: 10, Item: "x", Kind: kind, Qty: qty, Cost: cost, Ref: ref}
}

func receipt(seq, qty, cost int) api.Move {
	return move(seq, api.Receipt, qty, cost, 0)
}

func issue(seq, qty int) api.Move {
	return move(seq, api.Issue, qty, 0, 0)
}

func back(seq, qty, ref int) api.Move {
	return move(seq, api.Back, qty, 0, ref)
}

func send(seq, qty, cost, ref int) api.Move {
	return move(seq, api.Send, qty, cost, ref)
}

func landed(seq, cost, ref int) api.Move {
	return move(seq, api.Landed, 0, cost, ref)
}

// in returns a movement of a lot.
func in(lot string, m api.Move) api.Move {
	m.Lot = lot
	return m
}

// same reports whether two states are equal.
func same(a, b api.Stock) bool {
	return a.Qty == b.Qty && a.Value == b.Value && a.Price == b.Price && slices.Equal(a.Layers, b.Layers) && slices.Equal(a.Past, b.Past)
}

// copied returns a state that shares no memory with s.
func copied(s api.Stock) api.Stock {
	s.Layers, s.Past = slices.Clone(s.Layers), slices.Clone(s.Past)
	return s
}

// try fails unless Step returns this cost and this error, and with an error nothing else.
func try(t *testing.T, s api.Stock, m api.Move, wanted api.Cost, e api.Errno) api.Stock {
	t.Helper()
	next, c, f := fifo.Step(s, m)
	if c != wanted || f != e {
		t.Fatalf("Step(%v) = %v, %d, want %v, %d", m, c, f, wanted, e)
	}
	if e != api.OK && !same(next, api.Stock{}) {
		t.Fatalf("Step(%v) = %v, %d", m, next, f)
	}
	return next
}

// refuse fails unless Step returns this error.
func refuse(t *testing.T, s api.Stock, m api.Move, e api.Errno) {
	t.Helper()
	try(t, s, m, api.Cost{}, e)
}

// run returns the state after movements without errors.
func run(t *testing.T, s api.Stock, l ...api.Move) api.Stock {
	t.Helper()
	for _, m := range l {
		next, _, e := fifo.Step(s, m)
		if e != api.OK {
			t.Fatalf("Step(%v) = %d", m, e)
		}
		s = next
	}
	return s
}

// wantStock fails unless a state has this quantity and value, and these layers.
func wantStock(t *testing.T, s api.Stock, qty, value int, layers ...api.Layer) {
	t.Helper()
	if s.Qty != qty || s.Value != value || !slices.Equal(s.Layers, layers) {
		t.Errorf("the stock is %d, %d, %v, want %d, %d, %v", s.Qty, s.Value, s.Layers, qty, value, layers)
	}
}

// P34.1: the chapter's examples.
func TestExamples(t *testing.T) {
	s := run(t, api.Stock{}, receipt(1, 4, 10), receipt(2, 2, 8))
	s = try(t, s, issue(3, 5), api.Cost{Seq: 3, Qty: -5, Value: -14}, api.OK)
	wantStock(t, s, 1, 4, api.Layer{Seq: 2, Qty: 1, Value: 4})
	s = try(t, s, back(4, 2, 3), api.Cost{Seq: 4, Qty: 2, Value: 6}, api.OK)
	wantStock(t, s, 3, 10, api.Layer{Seq: 2, Qty: 1, Value: 4}, api.Layer{Seq: 4, Qty: 2, Value: 6})
	costs := try(t, s, landed(5, 5, 2), api.Cost{Seq: 5, Value: 2, Var: 3}, api.OK)
	wantStock(t, costs, 3, 12, api.Layer{Seq: 2, Qty: 1, Value: 6}, api.Layer{Seq: 4, Qty: 2, Value: 6})
	none := try(t, s, landed(5, 5, 1), api.Cost{Seq: 5, Var: 5}, api.OK)
	wantStock(t, none, 3, 10, api.Layer{Seq: 2, Qty: 1, Value: 4}, api.Layer{Seq: 4, Qty: 2, Value: 6})
	sent := try(t, s, send(6, 1, 3, 2), api.Cost{Seq: 6, Qty: -1, Value: -4, Var: 1}, api.OK)
	wantStock(t, sent, 2, 6, api.Layer{Seq: 4, Qty: 2, Value: 6})
	refuse(t, s, send(6, 1, 3, 1), api.ErrQty)
	wanted := []api.Past{{Seq: 1, Kind: api.Receipt, Qty: 4, Value: 10}, {Seq: 2, Kind: api.Receipt, Qty: 2, Value: 8, Used: 1}, {Seq: 3, Kind: api.Issue, Qty: 5, Value: 14, Used: 2, UsedValue: 6}}
	if !slices.Equal(sent.Past, wanted) {
		t.Errorf("Past is %v, want %v", sent.Past, wanted)
	}
}

// P34.1: a layer that is used in parts, with halves rounded to the even integer.
func TestParts(t *testing.T) {
	for _, c := range []struct {
		qty, cost int
		taken     []int
		values    []int
	}{
		{2, 1, []int{1, 1}, []int{0, 1}}, {2, 3, []int{1, 1}, []int{2, 1}}, {2, 5, []int{1, 1}, []int{2, 3}}, {2, 7, []int{1, 1}, []int{4, 3}},
		{4, 10, []int{1, 1, 1, 1}, []int{2, 3, 2, 3}}, {3, 10, []int{1, 2}, []int{3, 7}}, {3, 10, []int{2, 1}, []int{7, 3}}, {3, 0, []int{1, 1, 1}, []int{0, 0, 0}},
		{10, 105, []int{4, 6}, []int{42, 63}}, {qtyLimit, costLimit, []int{1, qtyLimit - 1}, []int{1000, costLimit - 1000}}, {qtyLimit, costLimit - 1, []int{qtyLimit / 2, qtyLimit / 2}, []int{costLimit / 2, costLimit/2 - 1}},
		{qtyLimit, 3, []int{qtyLimit / 2, qtyLimit / 2}, []int{2, 1}}, {7, 3, []int{7}, []int{3}},
	} {
		s := run(t, api.Stock{}, receipt(1, c.qty, c.cost))
		sent := s
		qty, value := c.qty, c.cost
		for i, n := range c.taken {
			s = try(t, s, issue(2+i, n), api.Cost{Seq: 2 + i, Qty: -n, Value: -c.values[i]}, api.OK)
			sent = try(t, sent, send(2+i, n, 5, 1), api.Cost{Seq: 2 + i, Qty: -n, Value: -c.values[i], Var: c.values[i] - 5}, api.OK)
			qty, value = qty-n, value-c.values[i]
			layers := []api.Layer{{Seq: 1, Qty: qty, Value: value}}
			if qty == 0 {
				layers = nil
			}
			wantStock(t, s, qty, value, layers...)
			wantStock(t, sent, qty, value, layers...)
		}
	}
}

// P34.1: the layers are used from the first one on, and a return is a layer at the end, with its own number and the lot of the issue.
func TestLayers(t *testing.T) {
	s := run(t, api.Stock{}, in("a", receipt(1, 2, 10)), in("b", receipt(5, 3, 30)), receipt(2, 4, 4))
	wantStock(t, s, 9, 44, api.Layer{Seq: 1, Lot: "a", Qty: 2, Value: 10}, api.Layer{Seq: 5, Lot: "b", Qty: 3, Value: 30}, api.Layer{Seq: 2, Qty: 4, Value: 4})
	// The lot of an issue does not choose a layer.
	s = try(t, s, in("c", issue(6, 3)), api.Cost{Seq: 6, Qty: -3, Value: -20}, api.OK)
	wantStock(t, s, 6, 24, api.Layer{Seq: 5, Lot: "b", Qty: 2, Value: 20}, api.Layer{Seq: 2, Qty: 4, Value: 4})
	s = try(t, s, back(7, 1, 6), api.Cost{Seq: 7, Qty: 1, Value: 7}, api.OK)
	wantStock(t, s, 7, 31, api.Layer{Seq: 5, Lot: "b", Qty: 2, Value: 20}, api.Layer{Seq: 2, Qty: 4, Value: 4}, api.Layer{Seq: 7, Lot: "c", Qty: 1, Value: 7})
	// The layer in the middle disappears.
	s = try(t, s, send(8, 4, 5, 2), api.Cost{Seq: 8, Qty: -4, Value: -4, Var: -1}, api.OK)
	wantStock(t, s, 3, 27, api.Layer{Seq: 5, Lot: "b", Qty: 2, Value: 20}, api.Layer{Seq: 7, Lot: "c", Qty: 1, Value: 7})
	all := try(t, s, issue(9, 3), api.Cost{Seq: 9, Qty: -3, Value: -27}, api.OK)
	wantStock(t, all, 0, 0)
	two := try(t, s, issue(9, 2), api.Cost{Seq: 9, Qty: -2, Value: -20}, api.OK)
	wantStock(t, two, 1, 7, api.Layer{Seq: 7, Lot: "c", Qty: 1, Value: 7})
	wanted := []api.Past{{Seq: 1, Kind: api.Receipt, Lot: "a", Qty: 2, Value: 10}, {Seq: 5, Kind: api.Receipt, Lot: "b", Qty: 3, Value: 30}, {Seq: 2, Kind: api.Receipt, Qty: 4, Value: 4, Used: 4}, {Seq: 6, Kind: api.Issue, Lot: "c", Qty: 3, Value: 20, Used: 1, UsedValue: 7}, {Seq: 9, Kind: api.Issue, Qty: 2, Value: 20}}
	if !slices.Equal(two.Past, wanted) {
		t.Errorf("Past is %v, want %v", two.Past, wanted)
	}
}

// P34.1: the shares of what is returned of an issue add up to its value.
func TestShares(t *testing.T) {
	for _, c := range []struct {
		qty, cost int
		returned  []int
		values    []int
	}{
		{5, 14, []int{2, 1, 2}, []int{6, 3, 5}}, {2, 1, []int{1, 1}, []int{0, 1}}, {2, 3, []int{1, 1}, []int{2, 1}}, {2, 5, []int{1, 1}, []int{2, 3}}, {3, 2, []int{1, 1, 1}, []int{1, 0, 1}}, {3, 0, []int{2, 1}, []int{0, 0}}, {4, 9, []int{4}, []int{9}},
		{qtyLimit, costLimit, []int{qtyLimit - 1, 1}, []int{costLimit - 1000, 1000}}, {qtyLimit, 1, []int{qtyLimit / 2, qtyLimit / 2}, []int{0, 1}},
	} {
		s := run(t, api.Stock{}, receipt(1, c.qty, c.cost), issue(2, c.qty))
		for i, n := range c.returned {
			if left := s.Past[1].Qty - s.Past[1].Used; left < qtyLimit {
				refuse(t, s, back(3+i, left+1, 2), api.ErrQty)
			}
			s = try(t, s, back(3+i, n, 2), api.Cost{Seq: 3 + i, Qty: n, Value: c.values[i]}, api.OK)
		}
		refuse(t, s, back(99, 1, 2), api.ErrQty)
		if last := s.Past[1]; last.Used != c.qty || last.UsedValue != c.cost {
			t.Errorf("Past ends with %v", last)
		}
		wantStock(t, api.Stock{Qty: s.Qty, Value: s.Value}, c.qty, c.cost)
	}
}

// P34.1: returns to the supplier, limited by the receipt and by its layer.
func TestSend(t *testing.T) {
	s := run(t, api.Stock{}, receipt(1, 5, 50), receipt(2, 5, 20), issue(3, 2))
	refuse(t, s, send(4, 4, 0, 1), api.ErrQty)
	refuse(t, s, send(4, 6, 0, 2), api.ErrQty)
	s = try(t, s, send(4, 3, costLimit, 1), api.Cost{Seq: 4, Qty: -3, Value: -30, Var: 30 - costLimit}, api.OK)
	refuse(t, s, send(5, 1, 0, 1), api.ErrQty)
	s = try(t, s, send(5, 2, 0, 2), api.Cost{Seq: 5, Qty: -2, Value: -8, Var: 8}, api.OK)
	s = run(t, s, back(6, 2, 3))
	wantStock(t, s, 5, 32, api.Layer{Seq: 2, Qty: 3, Value: 12}, api.Layer{Seq: 6, Qty: 2, Value: 20})
	// The receipt 1 has 2 units that were not returned to the supplier, but they are in the layer of movement 6.
	refuse(t, s, send(7, 1, 0, 1), api.ErrQty)
	refuse(t, s, send(7, 4, 0, 2), api.ErrQty)
	s = try(t, s, send(7, 3, 12, 2), api.Cost{Seq: 7, Qty: -3, Value: -12}, api.OK)
	wantStock(t, s, 2, 20, api.Layer{Seq: 6, Qty: 2, Value: 20})
	if p := s.Past[1]; p != (api.Past{Seq: 2, Kind: api.Receipt, Qty: 5, Value: 20, Used: 5}) {
		t.Errorf("Past has %v", p)
	}
}

// P34.1: landed costs of what is left, with halves rounded to the even integer.
func TestLanded(t *testing.T) {
	for _, c := range []struct{ qty, left, cost, value int }{
		{2, 1, 1, 0}, {2, 1, 3, 2}, {2, 1, 5, 2}, {2, 1, 7, 4}, {3, 1, 2, 1}, {3, 2, 2, 1}, {3, 1, 1, 0}, {3, 3, 5, 5}, {4, 3, 6, 4}, {4, 3, 2, 2}, {qtyLimit, 1, costLimit, 1000}, {qtyLimit, qtyLimit - 1, costLimit, costLimit - 1000}, {1, 1, costLimit, costLimit}, {qtyLimit, 1, 1, 0},
	} {
		s := run(t, api.Stock{}, receipt(1, c.qty, 9))
		if c.left < c.qty {
			s = run(t, s, issue(2, c.qty-c.left))
		}
		value := s.Value
		s = try(t, s, landed(3, c.cost, 1), api.Cost{Seq: 3, Value: c.value, Var: c.cost - c.value}, api.OK)
		wantStock(t, s, c.left, value+c.value, api.Layer{Seq: 1, Qty: c.left, Value: value + c.value})
	}
	// Without stock nothing is left.
	s := run(t, api.Stock{}, receipt(1, 5, 9), issue(2, 5))
	s = try(t, s, landed(3, 7, 1), api.Cost{Seq: 3, Var: 7}, api.OK)
	wantStock(t, s, 0, 0)
	// What was returned has a layer of its own; what was sent to the supplier still counts in the quantity of the receipt.
	s = run(t, s, back(4, 2, 2), receipt(5, 4, 8), send(6, 3, 0, 5))
	s = try(t, s, landed(7, 9, 5), api.Cost{Seq: 7, Value: 2, Var: 7}, api.OK)
	wantStock(t, s, 3, 8, api.Layer{Seq: 4, Qty: 2, Value: 4}, api.Layer{Seq: 5, Qty: 1, Value: 4})
	s = try(t, s, landed(8, 9, 1), api.Cost{Seq: 8, Var: 9}, api.OK)
	wantStock(t, s, 3, 8, api.Layer{Seq: 4, Qty: 2, Value: 4}, api.Layer{Seq: 5, Qty: 1, Value: 4})
}

// P34.1: a return can have the number of a later receipt; then its layer is the first one with this number.
func TestSharedNumbers(t *testing.T) {
	s := run(t, api.Stock{}, receipt(1, 6, 60), issue(2, 6), back(3, 4, 2), receipt(3, 2, 10))
	wantStock(t, s, 6, 50, api.Layer{Seq: 3, Qty: 4, Value: 40}, api.Layer{Seq: 3, Qty: 2, Value: 10})
	added := try(t, s, landed(4, 5, 3), api.Cost{Seq: 4, Value: 10, Var: -5}, api.OK)
	wantStock(t, added, 6, 60, api.Layer{Seq: 3, Qty: 4, Value: 50}, api.Layer{Seq: 3, Qty: 2, Value: 10})
	s = try(t, s, send(4, 2, 1, 3), api.Cost{Seq: 4, Qty: -2, Value: -20, Var: 19}, api.OK)
	wantStock(t, s, 4, 30, api.Layer{Seq: 3, Qty: 2, Value: 20}, api.Layer{Seq: 3, Qty: 2, Value: 10})
	refuse(t, s, send(5, 1, 1, 3), api.ErrQty)
}

// P34.1: the quantity in stock and its value at the limits.
func TestLimits(t *testing.T) {
	s := run(t, api.Stock{}, receipt(1, qtyLimit-1, 5))
	refuse(t, s, receipt(2, 2, 5), api.ErrOver)
	refuse(t, s, receipt(2, qtyLimit, 5), api.ErrOver)
	full := run(t, s, receipt(2, 1, 5))
	wantStock(t, full, qtyLimit, 10, api.Layer{Seq: 1, Qty: qtyLimit - 1, Value: 5}, api.Layer{Seq: 2, Qty: 1, Value: 5})
	refuse(t, full, receipt(3, 1, 0), api.ErrOver)
	s = run(t, full, issue(3, 2), receipt(4, 1, 0))
	refuse(t, s, back(5, 2, 3), api.ErrOver)
	run(t, s, back(5, 1, 3))
	var rich api.Stock
	for i := range 999 {
		rich = run(t, rich, receipt(10+i, 1, costLimit))
	}
	refuse(t, run(t, rich, receipt(1, 1, costLimit-1)), receipt(2, 1, 2), api.ErrOver)
	rich = run(t, rich, receipt(1, 1, costLimit))
	if rich.Value != sumLimit || rich.Qty != 1000 {
		t.Errorf("the stock is %d, %d", rich.Qty, rich.Value)
	}
	refuse(t, rich, receipt(2, 1, 1), api.ErrOver)
	refuse(t, rich, receipt(2, 1, costLimit), api.ErrOver)
	refuse(t, rich, landed(2, 1, 10), api.ErrOver)
	run(t, rich, receipt(2, 1, 0))
	// Everything is issued and returned at once, at the limit and above it.
	s = try(t, rich, issue(2, 1000), api.Cost{Seq: 2, Qty: -1000, Value: -sumLimit}, api.OK)
	run(t, s, back(3, 1000, 2))
	s = run(t, s, receipt(3, 1, 1))
	refuse(t, s, back(4, 1000, 2), api.ErrOver)
	try(t, s, back(4, 999, 2), api.Cost{Seq: 4, Qty: 999, Value: sumLimit / 1000 * 999}, api.OK)
	// A layer with the largest value.
	s = run(t, rich, issue(2, 1000), back(3, 1000, 2))
	wantStock(t, s, 1000, sumLimit, api.Layer{Seq: 3, Qty: 1000, Value: sumLimit})
}

// P34.1: landed costs of a receipt with the number of a much larger return.
func TestLargeLandedCosts(t *testing.T) {
	start := func(value int) api.Stock {
		return run(t, api.Stock{}, receipt(1, qtyLimit-1, value), issue(2, qtyLimit-1), back(3, qtyLimit-1, 2), receipt(3, 1, 0))
	}
	s := start(costLimit)
	for _, cost := range []int{costLimit, costLimit - 1, 9223372046, 9223372047, 9223372037, 9e9, 1e9, 1e6} {
		refuse(t, s, landed(4, cost, 3), api.ErrOver)
	}
	const added = 1e6 * (qtyLimit - 1)
	s = start(sumLimit - added)
	s = try(t, s, landed(4, 1e6, 3), api.Cost{Seq: 4, Value: added, Var: 1e6 - added}, api.OK)
	wantStock(t, s, qtyLimit, sumLimit, api.Layer{Seq: 3, Qty: qtyLimit - 1, Value: sumLimit}, api.Layer{Seq: 3, Qty: 1})
	refuse(t, start(sumLimit-added+1), landed(4, 1e6, 3), api.ErrOver)
	try(t, s, send(5, 1, costLimit, 3), api.Cost{Seq: 5, Qty: -1, Value: -1e6, Var: 1e6 - costLimit}, api.OK)
}

// P34.1: the error of One, whatever the state is.
func TestErrorsOfOne(t *testing.T) {
	states := []api.Stock{{}, run(t, api.Stock{}, receipt(1, 5, 50), issue(2, 2)), run(t, api.Stock{}, receipt(2, qtyLimit, 50))}
	long := strings.Repeat("a", 13)
	for _, m := range []api.Move{receipt(1, 5, 50), issue(1, 2), back(1, 1, 2), send(1, 1, 5, 1), landed(1, 5, 1), move(1, api.Reprice, 0, 5, 0)} {
		for _, change := range []func(m *api.Move){
			func(m *api.Move) { m.Value = -1 },
			func(m *api.Move) { m.Value = api.MaxDay + 1 },
			func(m *api.Move) { m.Item = "" },
			func(m *api.Move) { m.Item = long },
			func(m *api.Move) { m.Kind = 0 },
			func(m *api.Move) { m.Kind = 7 },
			func(m *api.Move) { m.Qty = -1 },
			func(m *api.Move) { m.Qty = qtyLimit + 1 },
			func(m *api.Move) { m.Cost = -1 },
			func(m *api.Move) { m.Cost = costLimit + 1 },
			func(m *api.Move) { m.Lot = long },
			func(m *api.Move) { m.Ref = -1 },
		} {
			x := m
			change(&x)
			e := moves.One(x)
			if e == api.OK {
				t.Fatalf("One(%v) = 0", x)
			}
			for _, s := range states {
				refuse(t, s, x, e)
			}
		}
	}
}

// P34.1: each other error, and its place before those that follow it.
func TestErrors(t *testing.T) {
	s := run(t, api.Stock{}, receipt(1, 5, 50), issue(2, 4), receipt(3, qtyLimit-2, 7), back(9, 1, 2))
	wantStock(t, api.Stock{Qty: s.Qty, Value: s.Value}, qtyLimit, 27)
	for _, seq := range []int{1, 2, 3} {
		for _, m := range []api.Move{receipt(seq, 1, 1), receipt(seq, qtyLimit, 1), issue(seq, 1), issue(seq, qtyLimit), back(seq, 1, 2), back(seq, 9, 2), back(seq, 1, 99), send(seq, 1, 1, 1), send(seq, 1, 1, 99), send(seq, 9, 1, 1), landed(seq, 1, 1), landed(seq, 1, 99), move(seq, api.Reprice, 0, 5, 0)} {
			refuse(t, s, m, api.ErrTwice)
		}
	}
	// Only receipts and issues are in Past, and any other number is free.
	for _, seq := range []int{0, 4, 9, -1, most, least} {
		try(t, s, landed(seq, 1, 1), api.Cost{Seq: seq, Var: 1}, api.OK)
	}
	for _, ref := range []int{1, 3, 4, 9, 99, most} {
		refuse(t, s, back(4, 1, ref), api.ErrRef)
		refuse(t, s, back(4, qtyLimit, ref), api.ErrRef)
	}
	for _, ref := range []int{2, 4, 9, 99, most} {
		refuse(t, s, send(4, 1, 1, ref), api.ErrRef)
		refuse(t, s, send(4, qtyLimit, 1, ref), api.ErrRef)
		refuse(t, s, landed(4, 1, ref), api.ErrRef)
	}
	// More than is left of the issue comes before a stock that is too large.
	refuse(t, s, back(4, 4, 2), api.ErrQty)
	refuse(t, s, back(4, qtyLimit, 2), api.ErrQty)
	refuse(t, s, back(4, 3, 2), api.ErrOver)
	refuse(t, s, back(4, 1, 2), api.ErrOver)
	refuse(t, s, receipt(4, 1, 1), api.ErrOver)
	refuse(t, s, send(4, 6, 1, 1), api.ErrQty)
	refuse(t, s, send(4, 2, 1, 1), api.ErrQty)
	for _, cost := range []int{0, 1, costLimit} {
		refuse(t, s, move(4, api.Reprice, 0, cost, 0), api.ErrKind)
		refuse(t, api.Stock{}, move(4, api.Reprice, 0, cost, 0), api.ErrKind)
	}
	refuse(t, api.Stock{}, issue(1, 1), api.ErrQty)
	refuse(t, api.Stock{}, back(1, 1, 1), api.ErrRef)
	refuse(t, api.Stock{}, send(1, 1, 0, 1), api.ErrRef)
	refuse(t, api.Stock{}, landed(1, 1, 1), api.ErrRef)
	small := run(t, api.Stock{}, receipt(1, 5, 50))
	refuse(t, small, issue(2, 6), api.ErrQty)
	refuse(t, small, issue(2, qtyLimit), api.ErrQty)
	run(t, small, issue(2, 5))
}

// model has the movements that were processed, and the layers; it derives the rest from them.
type model struct {
	done   []api.Move
	costs  []api.Cost
	layers []api.Layer
	price  int
}

// rounded returns a · b / c, rounded to the nearest integer, halves to the even one.
func rounded(a, b, c int) int {
	x := new(big.Rat).SetFrac(new(big.Int).Mul(big.NewInt(int64(a)), big.NewInt(int64(b))), big.NewInt(int64(c)))
	below, rest := new(big.Int).DivMod(x.Num(), x.Denom(), new(big.Int))
	n := int(below.Int64())
	if half := rest.Lsh(rest, 1).Cmp(x.Denom()); half > 0 || half == 0 && n%2 != 0 {
		n++
	}
	return n
}

// returned returns the quantity and the value of what was returned by movements of this kind.
func (x *model) returned(kind, ref int) (qty, value int) {
	for i, m := range x.done {
		if m.Kind == kind && m.Ref == ref {
			qty, value = qty+m.Qty, value+x.costs[i].Value
		}
	}
	return qty, value
}

// stock returns the state.
func (x *model) stock() (s api.Stock) {
	s.Price, s.Layers = x.price, x.layers
	for i, m := range x.done {
		s.Qty, s.Value = s.Qty+x.costs[i].Qty, s.Value+x.costs[i].Value
		switch m.Kind {
		case api.Receipt:
			used, _ := x.returned(api.Send, m.Seq)
			s.Past = append(s.Past, api.Past{Seq: m.Seq, Kind: m.Kind, Lot: m.Lot, Qty: m.Qty, Value: m.Cost, Used: used})
		case api.Issue:
			used, value := x.returned(api.Back, m.Seq)
			s.Past = append(s.Past, api.Past{Seq: m.Seq, Kind: m.Kind, Lot: m.Lot, Qty: m.Qty, Value: -x.costs[i].Value, Used: used, UsedValue: value})
		}
	}
	return s
}

// find returns the receipt or issue with this number.
func (x *model) find(kind, seq int) (p api.Past, ok bool) {
	for _, p := range x.stock().Past {
		if p.Kind == kind && p.Seq == seq {
			return p, true
		}
	}
	return api.Past{}, false
}

// step processes a movement.
func (x *model) step(m api.Move) (c api.Cost, e api.Errno) {
	if e = moves.One(m); e != api.OK {
		return c, e
	}
	for _, d := range x.done {
		if d.Seq == m.Seq && (d.Kind == api.Receipt || d.Kind == api.Issue) {
			return c, api.ErrTwice
		}
	}
	c, layers, e := x.cost(m)
	if e != api.OK {
		return api.Cost{}, e
	}
	s := x.stock()
	if s.Qty+c.Qty > qtyLimit || s.Value+c.Value > sumLimit {
		return api.Cost{}, api.ErrOver
	}
	x.done, x.costs = append(x.done, m), append(x.costs, c)
	x.layers = slices.DeleteFunc(layers, func(l api.Layer) bool { return l.Qty == 0 })
	return c, api.OK
}

// cost returns the costs of a movement and the layers after it, with those that are used up.
func (x *model) cost(m api.Move) (c api.Cost, layers []api.Layer, e api.Errno) {
	layers = slices.Clone(x.layers)
	first := -1
	for i := len(layers) - 1; i >= 0; i-- {
		if layers[i].Seq == m.Ref {
			first = i
		}
	}
	take := func(at, qty int) int {
		part := layers[at].Value
		if qty != layers[at].Qty {
			part = rounded(part, qty, layers[at].Qty)
		}
		layers[at].Qty, layers[at].Value = layers[at].Qty-qty, layers[at].Value-part
		return part
	}
	switch m.Kind {
	case api.Receipt:
		return api.Cost{Seq: m.Seq, Qty: m.Qty, Value: m.Cost}, append(layers, api.Layer{Seq: m.Seq, Lot: m.Lot, Qty: m.Qty, Value: m.Cost}), api.OK
	case api.Issue:
		if x.stock().Qty < m.Qty {
			return c, nil, api.ErrQty
		}
		c = api.Cost{Seq: m.Seq, Qty: -m.Qty}
		rest := m.Qty
		for at := range layers {
			qty := min(rest, layers[at].Qty)
			if qty > 0 {
				c.Value -= take(at, qty)
			}
			rest -= qty
		}
		return c, layers, api.OK
	case api.Back:
		p, ok := x.find(api.Issue, m.Ref)
		if !ok {
			return c, nil, api.ErrRef
		}
		if m.Qty > p.Qty-p.Used {
			return c, nil, api.ErrQty
		}
		share := p.Value - p.UsedValue
		if m.Qty != p.Qty-p.Used {
			share = rounded(share, m.Qty, p.Qty-p.Used)
		}
		return api.Cost{Seq: m.Seq, Qty: m.Qty, Value: share}, append(layers, api.Layer{Seq: m.Seq, Lot: p.Lot, Qty: m.Qty, Value: share}), api.OK
	case api.Send, api.Landed:
		p, ok := x.find(api.Receipt, m.Ref)
		if !ok {
			return c, nil, api.ErrRef
		}
		if m.Kind == api.Landed {
			added := 0
			if first >= 0 {
				added = rounded(m.Cost, layers[first].Qty, p.Qty)
				layers[first].Value += added
			}
			return api.Cost{Seq: m.Seq, Value: added, Var: m.Cost - added}, layers, api.OK
		}
		if m.Qty > p.Qty-p.Used || first < 0 || layers[first].Qty < m.Qty {
			return c, nil, api.ErrQty
		}
		part := take(first, m.Qty)
		return api.Cost{Seq: m.Seq, Qty: -m.Qty, Value: -part, Var: part - m.Cost}, layers, api.OK
	}
	return c, nil, api.ErrKind
}

// random returns the next of some movements. It often has an error, and sometimes the number of another one.
func random(r *rand.Rand, seq int) api.Move {
	kinds := []int{api.Receipt, api.Receipt, api.Receipt, api.Issue, api.Issue, api.Issue, api.Back, api.Back, api.Send, api.Send, api.Landed, api.Reprice}
	m := move(seq, kinds[r.Intn(len(kinds))], 0, 0, 0)
	if r.Intn(10) == 0 {
		m.Seq = 1 + r.Intn(seq)
	}
	sizes := []int{3, 10, 100, qtyLimit}
	switch m.Kind {
	case api.Receipt, api.Issue, api.Back, api.Send:
		m.Qty = 1 + r.Intn(sizes[r.Intn(1+r.Intn(4))])
	}
	switch m.Kind {
	case api.Receipt, api.Send, api.Landed, api.Reprice:
		m.Cost = 1 + r.Intn([]int{20, 1000, costLimit}[r.Intn(3)])
	}
	switch m.Kind {
	case api.Back, api.Send, api.Landed:
		m.Ref = 1 + r.Intn(seq)
	case api.Receipt, api.Issue:
		m.Lot = []string{"", "a", "b"}[r.Intn(3)]
	}
	if r.Intn(40) == 0 {
		m.Qty = r.Intn(2) * m.Qty * -1
	}
	return m
}

// conserves fails unless the stock is the sum of its layers and the costs are those of the movement.
func conserves(t *testing.T, s api.Stock, m api.Move, c api.Cost) {
	t.Helper()
	qty, value := 0, 0
	for _, l := range s.Layers {
		qty, value = qty+l.Qty, value+l.Value
		if l.Qty <= 0 || l.Value < 0 {
			t.Fatalf("there is a layer %v", l)
		}
	}
	if s.Qty != qty || s.Value != value {
		t.Fatalf("the layers of %v have %d, %d", s, qty, value)
	}
	wanted := map[int]int{api.Receipt: m.Cost, api.Landed: m.Cost, api.Send: -m.Cost, api.Issue: c.Value, api.Back: c.Value}
	if c.Value+c.Var != wanted[m.Kind] {
		t.Fatalf("the movement %v costs %v", m, c)
	}
}

// P34.1, P34.2: random movements, compared with the model.
func TestRandom(t *testing.T) {
	r := rand.New(rand.NewSource(34))
	seen := map[api.Errno]int{}
	for range 400 {
		x := &model{price: r.Intn(3)}
		s := api.Stock{Price: x.price}
		for seq := 1; seq <= 60; seq++ {
			m := random(r, seq)
			before := copied(s)
			c, e := x.step(m)
			seen[e]++
			next := try(t, s, m, c, e)
			if !same(s, before) {
				t.Fatalf("Step(%v) changed %v to %v", m, before, s)
			}
			if e != api.OK {
				continue
			}
			if !same(next, x.stock()) {
				t.Fatalf("Step(%v, %v) = %v, want %v", s, m, next, x.stock())
			}
			conserves(t, next, m, c)
			s = next
		}
	}
	for _, e := range []api.Errno{api.OK, api.ErrTwice, api.ErrRef, api.ErrQty, api.ErrKind, api.ErrOver, api.ErrRange} {
		if seen[e] < 50 {
			t.Errorf("the error %d occurred %d times", e, seen[e])
		}
	}
}

// P34.1: the state that was given stays as it is, with what lies behind its lists in memory, and results are new.
func TestMemory(t *testing.T) {
	s := run(t, api.Stock{Price: 3}, in("a", receipt(1, 4, 10)), receipt(2, 2, 8), receipt(3, 5, 7), issue(4, 3))
	behind := api.Stock{Qty: s.Qty, Value: s.Value, Price: s.Price}
	behind.Layers = append(slices.Clone(s.Layers), api.Layer{Seq: -1}, api.Layer{Seq: -2})[:len(s.Layers)]
	behind.Past = append(slices.Clone(s.Past), api.Past{Seq: -1}, api.Past{Seq: -2})[:len(s.Past)]
	for _, m := range []api.Move{in("b", receipt(5, 1, 9)), issue(5, 1), issue(5, 2), issue(5, 8), back(5, 2, 4), send(5, 1, 1, 1), send(5, 2, 1, 2), send(5, 5, 1, 3), landed(5, 9, 2), landed(5, 9, 1), issue(5, 9), move(5, api.Reprice, 0, 4, 0)} {
		first, c, e := fifo.Step(behind, m)
		second, d, f := fifo.Step(behind, m)
		if c != d || e != f || e == api.OK && first.Price != 3 {
			t.Errorf("Step(%v) = %v, %v, %d, then %v, %d", m, first, c, e, d, f)
		}
		kept := copied(second)
		for i := range first.Layers {
			first.Layers[i].Value = -9
		}
		for i := range first.Past {
			first.Past[i].Value = -9
		}
		_, _ = append(first.Layers, api.Layer{Seq: 9}), append(first.Past, api.Past{Seq: 9})
		if !same(second, kept) || !same(behind, s) {
			t.Errorf("Step(%v) shares memory: %v, %v", m, second, behind)
		}
		layers, list := behind.Layers[:len(s.Layers)+2], behind.Past[:len(s.Past)+2]
		if layers[len(s.Layers)].Seq != -1 || layers[len(s.Layers)+1].Seq != -2 || list[len(s.Past)].Seq != -1 || list[len(s.Past)+1].Seq != -2 {
			t.Errorf("Step(%v) wrote behind %v, %v", m, layers, list)
		}
	}
}

// P34.1: Step terminates without a panic for states that no Step returned.
func TestOtherStates(t *testing.T) {
	r := rand.New(rand.NewSource(35))
	numbers := []int{0, 1, 2, 3, 5, -1, -3, qtyLimit, most, least, least + 1}
	number := func() int { return numbers[r.Intn(len(numbers))] }
	for range 50000 {
		s := api.Stock{Qty: number(), Value: number(), Price: number()}
		for range r.Intn(4) {
			s.Layers = append(s.Layers, api.Layer{Seq: r.Intn(3), Qty: number(), Value: number()})
			s.Past = append(s.Past, api.Past{Seq: r.Intn(3), Kind: r.Intn(4), Qty: number(), Value: number(), Used: number(), UsedValue: number()})
		}
		fifo.Step(s, random(r, 1+r.Intn(5)))
	}
}
