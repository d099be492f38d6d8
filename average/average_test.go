package average_test

import (
	"math"
	"math/big"
	"math/rand"
	"slices"
	"strings"
	"testing"

	"accounting/api"
	"accounting/average"
	"accounting/moves"
)

const most, least, qtyLimit, costLimit, sumLimit = math.MaxInt, math.MinInt, api.MaxQty, api.MaxAmount, api.MaxSum

// move returns a movement of the item x.
func move(seq, kind, qty, cost, ref int) api.Move {
	return api.Move{Seq: seq, Value: 10, Item: "x", Kind: kind, Qty: qty, Cost: cost, Ref: ref}
}

func receipt(seq, qty, cost int) api.Move {
	return move(seq, api.Receipt, qty, cost, 0)
}

func issue(seq, qty int) api.Move {
	return move(seq, api.Issue, qty, 0, 0)
}

func back(seq, qty, ref int) api.Move {
	return move(seq, api.Back, qty, 0, ref)
}

func send(seq, qty, cost, ref int) api.Move {
	return move(seq, api.Send, qty, cost, ref)
}

func landed(seq, cost, ref int) api.Move {
	return move(seq, api.Landed, 0, cost, ref)
}

// in returns a movement of a lot.
func in(lot string, m api.Move) api.Move {
	m.Lot = lot
	return m
}

// same reports whether two states are equal.
func same(a, b api.Stock) bool {
	return a.Qty == b.Qty && a.Value == b.Value && a.Price == b.Price && slices.Equal(a.Layers, b.Layers) && slices.Equal(a.Past, b.Past)
}

// copied returns a state that shares no memory with s.
func copied(s api.Stock) api.Stock {
	s.Layers, s.Past = slices.Clone(s.Layers), slices.Clone(s.Past)
	return s
}

// try fails unless Step returns this cost and this error, and with an error nothing else.
func try(t *testing.T, s api.Stock, m api.Move, wanted api.Cost, e api.Errno) api.Stock {
	t.Helper()
	next, c, f := average.Step(s, m)
	if c != wanted || f != e {
		t.Fatalf("Step(%v) = %v, %d, want %v, %d", m, c, f, wanted, e)
	}
	if e != api.OK && !same(next, api.Stock{}) {
		t.Fatalf("Step(%v) = %v, %d", m, next, f)
	}
	return next
}

// refuse fails unless Step returns this error.
func refuse(t *testing.T, s api.Stock, m api.Move, e api.Errno) {
	t.Helper()
	try(t, s, m, api.Cost{}, e)
}

// run returns the state after movements without errors.
func run(t *testing.T, s api.Stock, l ...api.Move) api.Stock {
	t.Helper()
	for _, m := range l {
		next, _, e := average.Step(s, m)
		if e != api.OK {
			t.Fatalf("Step(%v) = %d", m, e)
		}
		s = next
	}
	return s
}

// wantStock fails unless a state has this quantity and value.
func wantStock(t *testing.T, s api.Stock, qty, value int) {
	t.Helper()
	if s.Qty != qty || s.Value != value || len(s.Layers) != 0 {
		t.Errorf("the stock is %d, %d, %v, want %d, %d", s.Qty, s.Value, s.Layers, qty, value)
	}
}

// P35.1: the chapter's examples.
func TestExamples(t *testing.T) {
	s := try(t, api.Stock{}, receipt(1, 10, 100), api.Cost{Seq: 1, Qty: 10, Value: 100}, api.OK)
	s = try(t, s, receipt(2, 5, 80), api.Cost{Seq: 2, Qty: 5, Value: 80}, api.OK)
	wantStock(t, s, 15, 180)
	s = try(t, s, issue(3, 4), api.Cost{Seq: 3, Qty: -4, Value: -48}, api.OK)
	s = try(t, s, back(4, 1, 3), api.Cost{Seq: 4, Qty: 1, Value: 12}, api.OK)
	wantStock(t, s, 12, 144)
	s = try(t, s, send(5, 5, 70, 2), api.Cost{Seq: 5, Qty: -5, Value: -60, Var: -10}, api.OK)
	wantStock(t, s, 7, 84)
	s = try(t, s, landed(6, 30, 1), api.Cost{Seq: 6, Value: 21, Var: 9}, api.OK)
	wantStock(t, s, 7, 105)
	refuse(t, s, move(7, api.Reprice, 0, 5, 0), api.ErrKind)
	refuse(t, s, issue(7, 8), api.ErrQty)
	wanted := []api.Past{{Seq: 1, Kind: api.Receipt, Qty: 10, Value: 100}, {Seq: 2, Kind: api.Receipt, Qty: 5, Value: 80, Used: 5}, {Seq: 3, Kind: api.Issue, Qty: 4, Value: 48, Used: 1, UsedValue: 12}}
	if !slices.Equal(s.Past, wanted) {
		t.Errorf("Past is %v, want %v", s.Past, wanted)
	}
}

// P35.1, P35.2: average values, with halves rounded to the even integer; the last units have what is left.
func TestAverages(t *testing.T) {
	for _, c := range []struct {
		qty, cost int
		taken     []int
		values    []int
	}{
		{2, 1, []int{1, 1}, []int{0, 1}}, {2, 3, []int{1, 1}, []int{2, 1}}, {2, 5, []int{1, 1}, []int{2, 3}}, {2, 7, []int{1, 1}, []int{4, 3}},
		{4, 10, []int{1, 1, 1, 1}, []int{2, 3, 2, 3}}, {3, 10, []int{1, 2}, []int{3, 7}}, {3, 10, []int{2, 1}, []int{7, 3}}, {3, 0, []int{1, 1, 1}, []int{0, 0, 0}}, {5, 3, []int{4, 1}, []int{2, 1}},
		{qtyLimit, costLimit, []int{1, qtyLimit - 1}, []int{1000, costLimit - 1000}}, {qtyLimit, costLimit - 1, []int{qtyLimit / 2, qtyLimit / 2}, []int{costLimit / 2, costLimit/2 - 1}},
		{qtyLimit, 3, []int{qtyLimit / 2, qtyLimit / 2}, []int{2, 1}}, {7, 3, []int{7}, []int{3}},
	} {
		s := run(t, api.Stock{}, receipt(1, c.qty, c.cost))
		sent := s
		qty, value := c.qty, c.cost
		for i, n := range c.taken {
			if qty < qtyLimit {
				refuse(t, s, issue(2+i, qty+1), api.ErrQty)
			}
			s = try(t, s, issue(2+i, n), api.Cost{Seq: 2 + i, Qty: -n, Value: -c.values[i]}, api.OK)
			sent = try(t, sent, send(2+i, n, 5, 1), api.Cost{Seq: 2 + i, Qty: -n, Value: -c.values[i], Var: c.values[i] - 5}, api.OK)
			qty, value = qty-n, value-c.values[i]
			wantStock(t, s, qty, value)
			wantStock(t, sent, qty, value)
		}
		refuse(t, s, issue(99, 1), api.ErrQty)
		refuse(t, sent, send(99, 1, 5, 1), api.ErrQty)
	}
}

// P35.1: the shares of what is returned of an issue add up to its value, whatever the average has become.
func TestShares(t *testing.T) {
	for _, c := range []struct {
		qty, cost int
		returned  []int
		values    []int
	}{
		{5, 14, []int{2, 1, 2}, []int{6, 3, 5}}, {2, 1, []int{1, 1}, []int{0, 1}}, {2, 3, []int{1, 1}, []int{2, 1}}, {2, 5, []int{1, 1}, []int{2, 3}}, {3, 2, []int{1, 1, 1}, []int{1, 0, 1}}, {3, 0, []int{2, 1}, []int{0, 0}}, {4, 9, []int{4}, []int{9}},
		{qtyLimit - 1, costLimit, []int{qtyLimit - 2, 1}, []int{costLimit - 1000, 1000}}, {qtyLimit - 2, 1, []int{qtyLimit/2 - 1, qtyLimit/2 - 1}, []int{0, 1}},
	} {
		s := run(t, api.Stock{}, receipt(1, c.qty, c.cost), issue(2, c.qty), in("b", receipt(3, 1, 77)))
		for i, n := range c.returned {
			refuse(t, s, back(4+i, s.Past[1].Qty-s.Past[1].Used+1, 2), api.ErrQty)
			s = try(t, s, back(4+i, n, 2), api.Cost{Seq: 4 + i, Qty: n, Value: c.values[i]}, api.OK)
		}
		refuse(t, s, back(99, 1, 2), api.ErrQty)
		wanted := []api.Past{{Seq: 1, Kind: api.Receipt, Qty: c.qty, Value: c.cost}, {Seq: 2, Kind: api.Issue, Qty: c.qty, Value: c.cost, Used: c.qty, UsedValue: c.cost}, {Seq: 3, Kind: api.Receipt, Lot: "b", Qty: 1, Value: 77}}
		if !slices.Equal(s.Past, wanted) {
			t.Errorf("Past is %v, want %v", s.Past, wanted)
		}
		wantStock(t, s, c.qty+1, c.cost+77)
	}
}

// P35.1: returns to the supplier, limited by the receipt and by the stock.
func TestSend(t *testing.T) {
	s := run(t, api.Stock{}, in("a", receipt(1, 5, 50)), receipt(2, 5, 20), in("c", issue(3, 2)))
	wantStock(t, s, 8, 56)
	refuse(t, s, send(4, 6, 0, 1), api.ErrQty)
	refuse(t, s, send(4, 6, 0, 2), api.ErrQty)
	s = try(t, s, send(4, 4, costLimit, 1), api.Cost{Seq: 4, Qty: -4, Value: -28, Var: 28 - costLimit}, api.OK)
	refuse(t, s, send(5, 2, 0, 1), api.ErrQty)
	refuse(t, s, send(5, 5, 0, 2), api.ErrQty)
	s = try(t, s, send(5, 1, 0, 1), api.Cost{Seq: 5, Qty: -1, Value: -7, Var: 7}, api.OK)
	s = try(t, s, send(6, 3, 21, 2), api.Cost{Seq: 6, Qty: -3, Value: -21}, api.OK)
	wantStock(t, s, 0, 0)
	refuse(t, s, send(7, 1, 0, 2), api.ErrQty)
	s = run(t, s, back(7, 2, 3), send(8, 2, 0, 2))
	wantStock(t, s, 0, 0)
	wanted := []api.Past{{Seq: 1, Kind: api.Receipt, Lot: "a", Qty: 5, Value: 50, Used: 5}, {Seq: 2, Kind: api.Receipt, Qty: 5, Value: 20, Used: 5}, {Seq: 3, Kind: api.Issue, Lot: "c", Qty: 2, Value: 14, Used: 2, UsedValue: 14}}
	if !slices.Equal(s.Past, wanted) {
		t.Errorf("Past is %v, want %v", s.Past, wanted)
	}
}

// P35.1: landed costs of a receipt, of which at most the stock is left, with halves rounded to the even integer.
func TestLanded(t *testing.T) {
	for _, c := range []struct{ qty, left, cost, value int }{
		{2, 1, 1, 0}, {2, 1, 3, 2}, {2, 1, 5, 2}, {2, 1, 7, 4}, {3, 1, 2, 1}, {3, 2, 2, 1}, {3, 1, 1, 0}, {3, 3, 5, 5}, {3, 0, 5, 0}, {4, 3, 6, 4}, {4, 3, 2, 2}, {10, 7, 30, 21}, {qtyLimit, 1, costLimit, 1000}, {qtyLimit, qtyLimit - 1, costLimit, costLimit - 1000}, {1, 1, costLimit, costLimit}, {qtyLimit, 1, 1, 0}, {1, 0, costLimit, 0},
	} {
		s := run(t, api.Stock{}, receipt(1, c.qty, 9))
		if c.left < c.qty {
			s = run(t, s, issue(2, c.qty-c.left))
		}
		value := s.Value
		s = try(t, s, landed(3, c.cost, 1), api.Cost{Seq: 3, Value: c.value, Var: c.cost - c.value}, api.OK)
		wantStock(t, s, c.left, value+c.value)
	}
	// Other receipts count as if they were this one, and what was sent to the supplier still counts in its quantity.
	s := run(t, api.Stock{}, receipt(1, 2, 10), receipt(2, 7, 70))
	wantStock(t, try(t, s, landed(3, 5, 1), api.Cost{Seq: 3, Value: 5}, api.OK), 9, 85)
	s = run(t, s, send(3, 7, 0, 2))
	wantStock(t, try(t, s, landed(4, 7, 2), api.Cost{Seq: 4, Value: 2, Var: 5}, api.OK), 2, 20)
}

// P35.1: the quantity in stock and its value at the limits.
func TestLimits(t *testing.T) {
	s := run(t, api.Stock{}, receipt(1, qtyLimit-1, 5))
	refuse(t, s, receipt(2, 2, 5), api.ErrOver)
	refuse(t, s, receipt(2, qtyLimit, 5), api.ErrOver)
	full := run(t, s, receipt(2, 1, 5))
	wantStock(t, full, qtyLimit, 10)
	refuse(t, full, receipt(3, 1, 0), api.ErrOver)
	s = run(t, full, issue(3, 2), receipt(4, 1, 0))
	refuse(t, s, back(5, 2, 3), api.ErrOver)
	run(t, s, back(5, 1, 3))
	var rich api.Stock
	for i := range 999 {
		rich = run(t, rich, receipt(10+i, 1, costLimit))
	}
	refuse(t, run(t, rich, receipt(1, 1, costLimit-1)), receipt(2, 1, 2), api.ErrOver)
	rich = run(t, rich, receipt(1, 1, costLimit))
	wantStock(t, rich, 1000, sumLimit)
	refuse(t, rich, receipt(2, 1, 1), api.ErrOver)
	refuse(t, rich, receipt(2, 1, costLimit), api.ErrOver)
	refuse(t, rich, landed(2, 1, 10), api.ErrOver)
	run(t, rich, receipt(2, 1, 0))
	// Everything is issued and returned at once, at the limit and above it.
	s = try(t, rich, issue(2, 1000), api.Cost{Seq: 2, Qty: -1000, Value: -sumLimit}, api.OK)
	wantStock(t, run(t, s, back(3, 1000, 2)), 1000, sumLimit)
	s = run(t, s, receipt(3, 1, 1))
	refuse(t, s, back(4, 1000, 2), api.ErrOver)
	try(t, s, back(4, 999, 2), api.Cost{Seq: 4, Qty: 999, Value: sumLimit / 1000 * 999}, api.OK)
	// The last unit is sent for nothing.
	s = run(t, rich, issue(2, 999))
	wantStock(t, try(t, s, send(3, 1, 0, 1), api.Cost{Seq: 3, Qty: -1, Value: -costLimit, Var: costLimit}, api.OK), 0, 0)
}

// P35.1: the error of One, whatever the state is.
func TestErrorsOfOne(t *testing.T) {
	states := []api.Stock{{}, run(t, api.Stock{}, receipt(1, 5, 50), issue(2, 2)), run(t, api.Stock{}, receipt(2, qtyLimit, 50))}
	long := strings.Repeat("a", 13)
	for _, m := range []api.Move{receipt(1, 5, 50), issue(1, 2), back(1, 1, 2), send(1, 1, 5, 1), landed(1, 5, 1), move(1, api.Reprice, 0, 5, 0)} {
		for _, change := range []func(m *api.Move){
			func(m *api.Move) { m.Value = -1 },
			func(m *api.Move) { m.Value = api.MaxDay + 1 },
			func(m *api.Move) { m.Item = "" },
			func(m *api.Move) { m.Item = long },
			func(m *api.Move) { m.Kind = 0 },
			func(m *api.Move) { m.Kind = 7 },
			func(m *api.Move) { m.Qty = -1 },
			func(m *api.Move) { m.Qty = qtyLimit + 1 },
			func(m *api.Move) { m.Cost = -1 },
			func(m *api.Move) { m.Cost = costLimit + 1 },
			func(m *api.Move) { m.Lot = long },
			func(m *api.Move) { m.Ref = -1 },
		} {
			x := m
			change(&x)
			e := moves.One(x)
			if e == api.OK {
				t.Fatalf("One(%v) = 0", x)
			}
			for _, s := range states {
				refuse(t, s, x, e)
			}
		}
	}
}

// P35.1: each other error, and its place before those that follow it.
func TestErrors(t *testing.T) {
	s := run(t, api.Stock{}, receipt(1, 5, 50), issue(2, 4), receipt(3, qtyLimit-2, 7), back(9, 1, 2))
	wantStock(t, s, qtyLimit, 27)
	for _, seq := range []int{1, 2, 3} {
		for _, m := range []api.Move{receipt(seq, 1, 1), receipt(seq, qtyLimit, 1), issue(seq, 1), issue(seq, qtyLimit), back(seq, 1, 2), back(seq, 9, 2), back(seq, 1, 99), send(seq, 1, 1, 1), send(seq, 1, 1, 99), send(seq, 9, 1, 1), landed(seq, 1, 1), landed(seq, 1, 99), move(seq, api.Reprice, 0, 5, 0)} {
			refuse(t, s, m, api.ErrTwice)
		}
	}
	// Only receipts and issues are in Past, and any other number is free.
	for _, seq := range []int{0, 4, 9, -1, most, least} {
		try(t, s, landed(seq, 1, 1), api.Cost{Seq: seq, Value: 1}, api.OK)
	}
	for _, ref := range []int{1, 3, 4, 9, 99, most} {
		refuse(t, s, back(4, 1, ref), api.ErrRef)
		refuse(t, s, back(4, qtyLimit, ref), api.ErrRef)
	}
	for _, ref := range []int{2, 4, 9, 99, most} {
		refuse(t, s, send(4, 1, 1, ref), api.ErrRef)
		refuse(t, s, send(4, qtyLimit, 1, ref), api.ErrRef)
		refuse(t, s, landed(4, 1, ref), api.ErrRef)
	}
	// More than is left of the issue comes before a stock that is too large.
	refuse(t, s, back(4, 4, 2), api.ErrQty)
	refuse(t, s, back(4, qtyLimit, 2), api.ErrQty)
	refuse(t, s, back(4, 3, 2), api.ErrOver)
	refuse(t, s, back(4, 1, 2), api.ErrOver)
	refuse(t, s, receipt(4, 1, 1), api.ErrOver)
	refuse(t, s, send(4, 6, 1, 1), api.ErrQty)
	for _, cost := range []int{0, 1, costLimit} {
		refuse(t, s, move(4, api.Reprice, 0, cost, 0), api.ErrKind)
		refuse(t, api.Stock{}, move(4, api.Reprice, 0, cost, 0), api.ErrKind)
	}
	refuse(t, api.Stock{}, issue(1, 1), api.ErrQty)
	refuse(t, api.Stock{}, back(1, 1, 1), api.ErrRef)
	refuse(t, api.Stock{}, send(1, 1, 0, 1), api.ErrRef)
	refuse(t, api.Stock{}, landed(1, 1, 1), api.ErrRef)
	small := run(t, api.Stock{}, receipt(1, 5, 50), issue(2, 3))
	refuse(t, small, issue(3, 3), api.ErrQty)
	refuse(t, small, issue(3, qtyLimit), api.ErrQty)
	refuse(t, small, send(3, 3, 0, 1), api.ErrQty)
	run(t, small, issue(3, 2))
	run(t, small, send(3, 2, 0, 1))
}

// model has the movements that were processed and their costs; it derives the rest from them.
type model struct {
	done  []api.Move
	costs []api.Cost
	price int
}

// rounded returns a · b / c, rounded to the nearest integer, halves to the even one.
func rounded(a, b, c int) int {
	x := new(big.Rat).SetFrac(new(big.Int).Mul(big.NewInt(int64(a)), big.NewInt(int64(b))), big.NewInt(int64(c)))
	below, rest := new(big.Int).DivMod(x.Num(), x.Denom(), new(big.Int))
	n := int(below.Int64())
	if half := rest.Lsh(rest, 1).Cmp(x.Denom()); half > 0 || half == 0 && n%2 != 0 {
		n++
	}
	return n
}

// share returns a value if these are all units, and otherwise the rounded part of it.
func share(value, qty, all int) int {
	if qty == all {
		return value
	}
	return rounded(value, qty, all)
}

// returned returns the quantity and the value of what was returned by movements of this kind.
func (x *model) returned(kind, ref int) (qty, value int) {
	for i, m := range x.done {
		if m.Kind == kind && m.Ref == ref {
			qty, value = qty+m.Qty, value+x.costs[i].Value
		}
	}
	return qty, value
}

// stock returns the state.
func (x *model) stock() (s api.Stock) {
	s.Price = x.price
	for i, m := range x.done {
		s.Qty, s.Value = s.Qty+x.costs[i].Qty, s.Value+x.costs[i].Value
		switch m.Kind {
		case api.Receipt:
			used, _ := x.returned(api.Send, m.Seq)
			s.Past = append(s.Past, api.Past{Seq: m.Seq, Kind: m.Kind, Lot: m.Lot, Qty: m.Qty, Value: m.Cost, Used: used})
		case api.Issue:
			used, value := x.returned(api.Back, m.Seq)
			s.Past = append(s.Past, api.Past{Seq: m.Seq, Kind: m.Kind, Lot: m.Lot, Qty: m.Qty, Value: -x.costs[i].Value, Used: used, UsedValue: value})
		}
	}
	return s
}

// find returns the receipt or issue with this number.
func (x *model) find(kind, seq int) (p api.Past, ok bool) {
	for _, p := range x.stock().Past {
		if p.Kind == kind && p.Seq == seq {
			return p, true
		}
	}
	return api.Past{}, false
}

// step processes a movement.
func (x *model) step(m api.Move) (c api.Cost, e api.Errno) {
	if e = moves.One(m); e != api.OK {
		return c, e
	}
	for _, d := range x.done {
		if d.Seq == m.Seq && (d.Kind == api.Receipt || d.Kind == api.Issue) {
			return c, api.ErrTwice
		}
	}
	s := x.stock()
	c, e = x.cost(s, m)
	if e == api.OK && (s.Qty+c.Qty > qtyLimit || s.Value+c.Value > sumLimit) {
		e = api.ErrOver
	}
	if e != api.OK {
		return api.Cost{}, e
	}
	x.done, x.costs = append(x.done, m), append(x.costs, c)
	return c, api.OK
}

// cost returns the costs of a movement.
func (x *model) cost(s api.Stock, m api.Move) (c api.Cost, e api.Errno) {
	of := map[int]int{api.Back: api.Issue, api.Send: api.Receipt, api.Landed: api.Receipt}[m.Kind]
	p, ok := x.find(of, m.Ref)
	if of != 0 && !ok {
		return c, api.ErrRef
	}
	if of != 0 && m.Qty > p.Qty-p.Used {
		return c, api.ErrQty
	}
	switch m.Kind {
	case api.Receipt:
		return api.Cost{Seq: m.Seq, Qty: m.Qty, Value: m.Cost}, api.OK
	case api.Back:
		return api.Cost{Seq: m.Seq, Qty: m.Qty, Value: share(p.Value-p.UsedValue, m.Qty, p.Qty-p.Used)}, api.OK
	case api.Issue, api.Send:
		if s.Qty < m.Qty {
			return c, api.ErrQty
		}
		value := share(s.Value, m.Qty, s.Qty)
		c = api.Cost{Seq: m.Seq, Qty: -m.Qty, Value: -value}
		if m.Kind == api.Send {
			c.Var = value - m.Cost
		}
		return c, api.OK
	case api.Landed:
		value := m.Cost
		if s.Qty < p.Qty {
			value = rounded(m.Cost, s.Qty, p.Qty)
		}
		return api.Cost{Seq: m.Seq, Value: value, Var: m.Cost - value}, api.OK
	}
	return c, api.ErrKind
}

// random returns the next of some movements. It often has an error, and sometimes the number of another one.
func random(r *rand.Rand, seq int) api.Move {
	kinds := []int{api.Receipt, api.Receipt, api.Receipt, api.Issue, api.Issue, api.Issue, api.Back, api.Back, api.Send, api.Send, api.Landed, api.Reprice}
	m := move(seq, kinds[r.Intn(len(kinds))], 0, 0, 0)
	if r.Intn(10) == 0 {
		m.Seq = 1 + r.Intn(seq)
	}
	sizes := []int{3, 10, 100, qtyLimit}
	switch m.Kind {
	case api.Receipt, api.Issue, api.Back, api.Send:
		m.Qty = 1 + r.Intn(sizes[r.Intn(1+r.Intn(4))])
	}
	switch m.Kind {
	case api.Receipt, api.Send, api.Landed, api.Reprice:
		m.Cost = 1 + r.Intn([]int{20, 1000, costLimit}[r.Intn(3)])
	}
	switch m.Kind {
	case api.Back, api.Send, api.Landed:
		m.Ref = 1 + r.Intn(seq)
	case api.Receipt, api.Issue:
		m.Lot = []string{"", "a", "b"}[r.Intn(3)]
	}
	if r.Intn(40) == 0 {
		m.Qty = r.Intn(2) * m.Qty * -1
	}
	return m
}

// conserves fails unless the costs are those of the movement, and the stock has no value without quantity.
func conserves(t *testing.T, s api.Stock, m api.Move, c api.Cost) {
	t.Helper()
	if s.Qty < 0 || s.Value < 0 || s.Qty == 0 && s.Value != 0 {
		t.Fatalf("the stock is %d, %d", s.Qty, s.Value)
	}
	wanted := map[int]int{api.Receipt: m.Cost, api.Landed: m.Cost, api.Send: -m.Cost, api.Issue: c.Value, api.Back: c.Value}
	if c.Value+c.Var != wanted[m.Kind] {
		t.Fatalf("the movement %v costs %v", m, c)
	}
}

// P35.1, P35.2: random movements, compared with the model.
func TestRandom(t *testing.T) {
	r := rand.New(rand.NewSource(35))
	seen := map[api.Errno]int{}
	for range 400 {
		x := &model{price: r.Intn(3)}
		s := api.Stock{Price: x.price}
		for seq := 1; seq <= 60; seq++ {
			m := random(r, seq)
			before := copied(s)
			c, e := x.step(m)
			seen[e]++
			next := try(t, s, m, c, e)
			if !same(s, before) {
				t.Fatalf("Step(%v) changed %v to %v", m, before, s)
			}
			if e != api.OK {
				continue
			}
			if !same(next, x.stock()) {
				t.Fatalf("Step(%v, %v) = %v, want %v", s, m, next, x.stock())
			}
			conserves(t, next, m, c)
			s = next
		}
	}
	for _, e := range []api.Errno{api.OK, api.ErrTwice, api.ErrRef, api.ErrQty, api.ErrKind, api.ErrOver, api.ErrRange} {
		if seen[e] < 50 {
			t.Errorf("the error %d occurred %d times", e, seen[e])
		}
	}
}

// P35.1: the state that was given stays as it is, with what lies behind its list in memory, and results are new.
func TestMemory(t *testing.T) {
	s := run(t, api.Stock{Price: 3}, in("a", receipt(1, 4, 10)), receipt(2, 2, 8), receipt(3, 5, 7), issue(4, 3))
	behind := s
	behind.Past = append(slices.Clone(s.Past), api.Past{Seq: -1}, api.Past{Seq: -2})[:len(s.Past)]
	for _, m := range []api.Move{in("b", receipt(5, 1, 9)), issue(5, 1), issue(5, 8), back(5, 2, 4), send(5, 1, 1, 1), send(5, 2, 1, 2), landed(5, 9, 2), issue(5, 9), move(5, api.Reprice, 0, 4, 0)} {
		first, c, e := average.Step(behind, m)
		second, d, f := average.Step(behind, m)
		if c != d || e != f || e == api.OK && first.Price != 3 {
			t.Errorf("Step(%v) = %v, %v, %d, then %v, %d", m, first, c, e, d, f)
		}
		kept := copied(second)
		for i := range first.Past {
			first.Past[i].Value = -9
		}
		_ = append(first.Past, api.Past{Seq: 9})
		if !same(second, kept) || !same(behind, s) {
			t.Errorf("Step(%v) shares memory: %v, %v", m, second, behind)
		}
		if list := behind.Past[:len(s.Past)+2]; list[len(s.Past)].Seq != -1 || list[len(s.Past)+1].Seq != -2 {
			t.Errorf("Step(%v) wrote behind %v", m, list)
		}
	}
}

// P35.1: Step terminates without a panic for states that no Step returned.
func TestOtherStates(t *testing.T) {
	r := rand.New(rand.NewSource(36))
	numbers := []int{0, 1, 2, 3, 5, -1, -3, qtyLimit, most, least, least + 1}
	number := func() int { return numbers[r.Intn(len(numbers))] }
	for range 50000 {
		s := api.Stock{Qty: number(), Value: number(), Price: number()}
		for range r.Intn(4) {
			s.Layers = append(s.Layers, api.Layer{Seq: r.Intn(3), Qty: number(), Value: number()})
			s.Past = append(s.Past, api.Past{Seq: r.Intn(3), Kind: r.Intn(4), Qty: number(), Value: number(), Used: number(), UsedValue: number()})
		}
		average.Step(s, random(r, 1+r.Intn(5)))
	}
}
