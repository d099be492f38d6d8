package standard_test

import (
	"math"
	"math/big"
	"math/rand"
	"slices"
	"strings"
	"testing"

	"accounting/api"
	"accounting/moves"
	"accounting/standard"
)

const most, least, qtyLimit, costLimit, sumLimit = math.MaxInt, math.MinInt, api.MaxQty, api.MaxAmount, api.MaxSum

// move returns a movement of the item x.
func move(seq, kind, qty, cost, ref int) api.Move {
	return api.Move{Seq: seq, Value: 10, Item: "x", Kind: kind, Qty: qty, Cost: cost, Ref: ref}
}

func receipt(seq, qty, cost int) api.Move {
	return move(seq, api.Receipt, qty, cost, 0)
}

func issue(seq, qty int) api.Move {
	return move(seq, api.Issue, qty, 0, 0)
}

func back(seq, qty, ref int) api.Move {
	return move(seq, api.Back, qty, 0, ref)
}

func send(seq, qty, cost, ref int) api.Move {
	return move(seq, api.Send, qty, cost, ref)
}

func landed(seq, cost, ref int) api.Move {
	return move(seq, api.Landed, 0, cost, ref)
}

func reprice(seq, price int) api.Move {
	return move(seq, api.Reprice, 0, price, 0)
}

// in returns a movement of a lot.
func in(lot string, m api.Move) api.Move {
	m.Lot = lot
	return m
}

// same reports whether two states are equal.
func same(a, b api.Stock) bool {
	return a.Qty == b.Qty && a.Value == b.Value && a.Price == b.Price && slices.Equal(a.Layers, b.Layers) && slices.Equal(a.Past, b.Past)
}

// copied returns a state that shares no memory with s.
func copied(s api.Stock) api.Stock {
	s.Layers, s.Past = slices.Clone(s.Layers), slices.Clone(s.Past)
	return s
}

// try fails unless Step returns this cost and this error, and with an error nothing else.
func try(t *testing.T, s api.Stock, m api.Move, wanted api.Cost, e api.Errno) api.Stock {
	t.Helper()
	next, c, f := standard.Step(s, m)
	if c != wanted || f != e {
		t.Fatalf("Step(%v) = %v, %d, want %v, %d", m, c, f, wanted, e)
	}
	if e != api.OK && !same(next, api.Stock{}) {
		t.Fatalf("Step(%v) = %v, %d", m, next, f)
	}
	return next
}

// refuse fails unless Step returns this error.
func refuse(t *testing.T, s api.Stock, m api.Move, e api.Errno) {
	t.Helper()
	try(t, s, m, api.Cost{}, e)
}

// run returns the state after movements without errors.
func run(t *testing.T, s api.Stock, l ...api.Move) api.Stock {
	t.Helper()
	for _, m := range l {
		next, _, e := standard.Step(s, m)
		if e != api.OK {
			t.Fatalf("Step(%v) = %d", m, e)
		}
		s = next
	}
	return s
}

// wantStock fails unless a state has this quantity and value.
func wantStock(t *testing.T, s api.Stock, qty, value int) {
	t.Helper()
	if s.Qty != qty || s.Value != value || len(s.Layers) != 0 {
		t.Errorf("the stock is %d, %d, %v, want %d, %d", s.Qty, s.Value, s.Layers, qty, value)
	}
}

// P36.1, P36.2: the chapter's examples.
func TestExamples(t *testing.T) {
	s := try(t, api.Stock{Price: 10}, receipt(1, 8, 90), api.Cost{Seq: 1, Qty: 8, Value: 80, Var: 10}, api.OK)
	s = try(t, s, issue(2, 3), api.Cost{Seq: 2, Qty: -3, Value: -30}, api.OK)
	wantStock(t, s, 5, 50)
	s = try(t, s, reprice(3, 12), api.Cost{Seq: 3, Value: 10, Var: -10}, api.OK)
	wantStock(t, s, 5, 60)
	s = try(t, s, back(4, 2, 2), api.Cost{Seq: 4, Qty: 2, Value: 24, Var: -4}, api.OK)
	wantStock(t, s, 7, 84)
	refuse(t, s, back(5, 2, 2), api.ErrQty)
	s = try(t, s, send(5, 1, 11, 1), api.Cost{Seq: 5, Qty: -1, Value: -12, Var: 1}, api.OK)
	s = try(t, s, landed(6, 7, 1), api.Cost{Seq: 6, Var: 7}, api.OK)
	wantStock(t, s, 6, 72)
	wanted := []api.Past{{Seq: 1, Kind: api.Receipt, Qty: 8, Value: 90, Used: 1}, {Seq: 2, Kind: api.Issue, Qty: 3, Value: 30, Used: 2, UsedValue: 20}}
	if !slices.Equal(s.Past, wanted) || s.Price != 12 {
		t.Errorf("Past is %v, want %v, and the price is %d", s.Past, wanted, s.Price)
	}
}

// P36.1, P36.2: each kind of movement at a price of nothing, an ordinary one and the highest one.
func TestPrices(t *testing.T) {
	for _, price := range []int{0, 1, 7, 1000, costLimit} {
		s := api.Stock{Price: price}
		s = try(t, s, receipt(1, 9, 50), api.Cost{Seq: 1, Qty: 9, Value: 9 * price, Var: 50 - 9*price}, api.OK)
		s = try(t, s, in("a", receipt(2, 1, 0)), api.Cost{Seq: 2, Qty: 1, Value: price, Var: -price}, api.OK)
		s = try(t, s, receipt(3, 2, costLimit), api.Cost{Seq: 3, Qty: 2, Value: 2 * price, Var: costLimit - 2*price}, api.OK)
		wantStock(t, s, 12, 12*price)
		s = try(t, s, in("b", issue(4, 7)), api.Cost{Seq: 4, Qty: -7, Value: -7 * price}, api.OK)
		s = try(t, s, landed(5, 3, 1), api.Cost{Seq: 5, Var: 3}, api.OK)
		s = try(t, s, landed(6, costLimit, 1), api.Cost{Seq: 6, Var: costLimit}, api.OK)
		s = try(t, s, back(7, 3, 4), api.Cost{Seq: 7, Qty: 3, Value: 3 * price}, api.OK)
		s = try(t, s, send(8, 3, 0, 1), api.Cost{Seq: 8, Qty: -3, Value: -3 * price, Var: 3 * price}, api.OK)
		s = try(t, s, send(9, 5, costLimit, 1), api.Cost{Seq: 9, Qty: -5, Value: -5 * price, Var: 5*price - costLimit}, api.OK)
		refuse(t, s, send(10, 1, 0, 2), api.ErrQty)
		wantStock(t, s, 0, 0)
		s = try(t, s, back(10, 4, 4), api.Cost{Seq: 10, Qty: 4, Value: 4 * price}, api.OK)
		wanted := []api.Past{
			{Seq: 1, Kind: api.Receipt, Qty: 9, Value: 50, Used: 8},
			{Seq: 2, Kind: api.Receipt, Lot: "a", Qty: 1},
			{Seq: 3, Kind: api.Receipt, Qty: 2, Value: costLimit},
			{Seq: 4, Kind: api.Issue, Lot: "b", Qty: 7, Value: 7 * price, Used: 7, UsedValue: 7 * price},
		}
		if !slices.Equal(s.Past, wanted) || s.Price != price {
			t.Errorf("Past is %v, want %v, and the price is %d", s.Past, wanted, s.Price)
		}
	}
}

// P36.1, P36.2: new prices revalue the stock, and what was issued before comes back at its old price.
func TestReprice(t *testing.T) {
	s := try(t, api.Stock{Price: 5}, reprice(1, 10), api.Cost{Seq: 1}, api.OK)
	s = run(t, s, receipt(2, 6, 60), issue(3, 3))
	s = try(t, s, reprice(4, 4), api.Cost{Seq: 4, Value: -18, Var: 18}, api.OK)
	s = try(t, s, back(5, 1, 3), api.Cost{Seq: 5, Qty: 1, Value: 4, Var: 6}, api.OK)
	s = try(t, s, reprice(5, 4), api.Cost{Seq: 5}, api.OK)
	s = try(t, s, reprice(6, 0), api.Cost{Seq: 6, Value: -16, Var: 16}, api.OK)
	wantStock(t, s, 4, 0)
	s = try(t, s, back(7, 2, 3), api.Cost{Seq: 7, Qty: 2, Var: 20}, api.OK)
	s = try(t, s, issue(8, 2), api.Cost{Seq: 8, Qty: -2}, api.OK)
	s = try(t, s, reprice(9, costLimit), api.Cost{Seq: 9, Value: 4 * costLimit, Var: -4 * costLimit}, api.OK)
	s = try(t, s, back(10, 1, 8), api.Cost{Seq: 10, Qty: 1, Value: costLimit, Var: -costLimit}, api.OK)
	s = try(t, s, send(11, 5, 3, 2), api.Cost{Seq: 11, Qty: -5, Value: -5 * costLimit, Var: 5*costLimit - 3}, api.OK)
	s = try(t, s, reprice(12, 1), api.Cost{Seq: 12}, api.OK)
	wantStock(t, s, 0, 0)
	if s.Price != 1 || len(s.Past) != 3 {
		t.Errorf("the stock is %v", s)
	}
}

// P36.1: the quantity in stock and its value at the limits.
func TestLimits(t *testing.T) {
	s := run(t, api.Stock{Price: 1000000}, receipt(1, qtyLimit-1, 5))
	refuse(t, s, receipt(2, 2, 5), api.ErrOver)
	refuse(t, s, receipt(2, qtyLimit, 5), api.ErrOver)
	full := try(t, s, receipt(2, 1, 5), api.Cost{Seq: 2, Qty: 1, Value: 1000000, Var: 5 - 1000000}, api.OK)
	wantStock(t, full, qtyLimit, sumLimit)
	refuse(t, full, receipt(3, 1, 0), api.ErrOver)
	refuse(t, full, reprice(3, 1000001), api.ErrOver)
	refuse(t, full, reprice(3, costLimit), api.ErrOver)
	cheap := try(t, full, reprice(3, 0), api.Cost{Seq: 3, Value: -sumLimit, Var: sumLimit}, api.OK)
	refuse(t, cheap, receipt(4, 1, 0), api.ErrOver)
	try(t, cheap, reprice(4, 1000000), api.Cost{Seq: 4, Value: sumLimit, Var: -sumLimit}, api.OK)
	s = try(t, full, issue(3, qtyLimit), api.Cost{Seq: 3, Qty: -qtyLimit, Value: -sumLimit}, api.OK)
	try(t, s, back(4, qtyLimit, 3), api.Cost{Seq: 4, Qty: qtyLimit, Value: sumLimit}, api.OK)
	// Everything comes back at a price at which it has no value, or too high a one.
	try(t, run(t, s, reprice(4, 0)), back(5, qtyLimit, 3), api.Cost{Seq: 5, Qty: qtyLimit, Var: sumLimit}, api.OK)
	dear := run(t, s, reprice(4, 1000001))
	refuse(t, dear, back(5, qtyLimit, 3), api.ErrOver)
	try(t, dear, back(5, 1, 3), api.Cost{Seq: 5, Qty: 1, Value: 1000001, Var: -1}, api.OK)
	s = run(t, s, receipt(5, 1, 0))
	refuse(t, s, back(6, qtyLimit, 3), api.ErrOver)
	try(t, s, back(6, qtyLimit-1, 3), api.Cost{Seq: 6, Qty: qtyLimit - 1, Value: sumLimit - 1000000}, api.OK)
	// Products that no int holds, and some that would be within the limit if they wrapped around.
	for _, price := range []int{costLimit, 1 << 35, 1 << 39, 999999999999} {
		refuse(t, api.Stock{Price: price}, receipt(1, qtyLimit, 5), api.ErrOver)
		refuse(t, api.Stock{Price: price}, receipt(1, 1<<29, 5), api.ErrOver)
		refuse(t, run(t, api.Stock{}, receipt(1, 1<<29, 5)), reprice(2, price), api.ErrOver)
	}
	// 1001 · 999000999001 is the limit and 1 more.
	refuse(t, api.Stock{Price: 999000999001}, receipt(1, 1001, 5), api.ErrOver)
	refuse(t, run(t, api.Stock{Price: 1}, receipt(1, 1001, 5)), reprice(2, 999000999001), api.ErrOver)
	few := run(t, api.Stock{Price: costLimit}, receipt(1, 999, costLimit))
	try(t, few, receipt(2, 1, costLimit), api.Cost{Seq: 2, Qty: 1, Value: costLimit}, api.OK)
	refuse(t, few, receipt(2, 2, costLimit), api.ErrOver)
	try(t, api.Stock{Price: costLimit}, receipt(1, 1000, 0), api.Cost{Seq: 1, Qty: 1000, Value: sumLimit, Var: -sumLimit}, api.OK)
	try(t, run(t, few, receipt(2, 1, 7)), send(3, 1, costLimit, 2), api.Cost{Seq: 3, Qty: -1, Value: -costLimit}, api.OK)
}

// P36.1: the error of One, whatever the state is.
func TestErrorsOfOne(t *testing.T) {
	states := []api.Stock{{}, run(t, api.Stock{}, receipt(1, 5, 50), issue(2, 2)), run(t, api.Stock{}, receipt(2, qtyLimit, 50))}
	long := strings.Repeat("a", 13)
	for _, m := range []api.Move{receipt(1, 5, 50), issue(1, 2), back(1, 1, 2), send(1, 1, 5, 1), landed(1, 5, 1), reprice(1, 5)} {
		for _, change := range []func(m *api.Move){
			func(m *api.Move) { m.Value = -1 },
			func(m *api.Move) { m.Value = api.MaxDay + 1 },
			func(m *api.Move) { m.Item = "" },
			func(m *api.Move) { m.Item = long },
			func(m *api.Move) { m.Kind = 0 },
			func(m *api.Move) { m.Kind = 7 },
			func(m *api.Move) { m.Qty = -1 },
			func(m *api.Move) { m.Qty = qtyLimit + 1 },
			func(m *api.Move) { m.Cost = -1 },
			func(m *api.Move) { m.Cost = costLimit + 1 },
			func(m *api.Move) { m.Lot = long },
			func(m *api.Move) { m.Ref = -1 },
		} {
			x := m
			change(&x)
			e := moves.One(x)
			if e == api.OK {
				t.Fatalf("One(%v) = 0", x)
			}
			for _, s := range states {
				refuse(t, s, x, e)
			}
		}
	}
}

// P36.1: each other error, and its place before those that follow it.
func TestErrors(t *testing.T) {
	s := run(t, api.Stock{Price: 1000000}, receipt(1, 5, 50), issue(2, 4), receipt(3, qtyLimit-2, 7), back(9, 1, 2))
	wantStock(t, s, qtyLimit, sumLimit)
	for _, seq := range []int{1, 2, 3} {
		for _, m := range []api.Move{receipt(seq, 1, 1), receipt(seq, qtyLimit, 1), issue(seq, 1), issue(seq, qtyLimit), back(seq, 1, 2), back(seq, 9, 2), back(seq, 1, 99), send(seq, 1, 1, 1), send(seq, 1, 1, 99), send(seq, 9, 1, 1), landed(seq, 1, 1), landed(seq, 1, 99), reprice(seq, 5), reprice(seq, costLimit)} {
			refuse(t, s, m, api.ErrTwice)
		}
	}
	// Only receipts and issues are in Past, and any other number is free.
	for _, seq := range []int{0, 4, 9, -1, most, least} {
		try(t, s, landed(seq, 1, 1), api.Cost{Seq: seq, Var: 1}, api.OK)
		try(t, s, reprice(seq, 1000000), api.Cost{Seq: seq}, api.OK)
	}
	for _, ref := range []int{1, 3, 4, 9, 99, most} {
		refuse(t, s, back(4, 1, ref), api.ErrRef)
		refuse(t, s, back(4, qtyLimit, ref), api.ErrRef)
	}
	for _, ref := range []int{2, 4, 9, 99, most} {
		refuse(t, s, send(4, 1, 1, ref), api.ErrRef)
		refuse(t, s, send(4, qtyLimit, 1, ref), api.ErrRef)
		refuse(t, s, landed(4, 1, ref), api.ErrRef)
	}
	// More than is left of the issue comes before a stock that is too large.
	refuse(t, s, back(4, 4, 2), api.ErrQty)
	refuse(t, s, back(4, qtyLimit, 2), api.ErrQty)
	refuse(t, s, back(4, 3, 2), api.ErrOver)
	refuse(t, s, back(4, 1, 2), api.ErrOver)
	refuse(t, s, receipt(4, 1, 1), api.ErrOver)
	refuse(t, s, reprice(4, 1000001), api.ErrOver)
	refuse(t, s, send(4, 6, 1, 1), api.ErrQty)
	refuse(t, api.Stock{Price: 1}, issue(1, 1), api.ErrQty)
	refuse(t, api.Stock{Price: costLimit}, issue(1, qtyLimit), api.ErrQty)
	refuse(t, api.Stock{}, back(1, 1, 1), api.ErrRef)
	refuse(t, api.Stock{}, send(1, 1, 0, 1), api.ErrRef)
	refuse(t, api.Stock{}, landed(1, 1, 1), api.ErrRef)
	small := run(t, api.Stock{Price: costLimit}, receipt(1, 5, 50), issue(2, 3))
	refuse(t, small, issue(3, 3), api.ErrQty)
	refuse(t, small, issue(3, qtyLimit), api.ErrQty)
	refuse(t, small, send(3, 3, 0, 1), api.ErrQty)
	run(t, small, issue(3, 2))
	run(t, small, send(3, 2, 0, 1))
}

// model has the movements that were processed and their costs; it derives the rest from them.
type model struct {
	done  []api.Move
	costs []api.Cost
	start int
}

// price returns the price, the last one that a movement set.
func (x *model) price() int {
	for i := len(x.done) - 1; i >= 0; i-- {
		if x.done[i].Kind == api.Reprice {
			return x.done[i].Cost
		}
	}
	return x.start
}

// product returns a · b and whether it is at most MaxSum.
func product(a, b int) (n int, ok bool) {
	x := new(big.Int).Mul(big.NewInt(int64(a)), big.NewInt(int64(b)))
	return int(x.Int64()), x.Cmp(big.NewInt(sumLimit)) <= 0
}

// returned returns the quantity and the value of what was returned by movements of this kind: at the costs of the issue, and so with their variances.
func (x *model) returned(kind, ref int) (qty, value int) {
	for i, m := range x.done {
		if m.Kind == kind && m.Ref == ref {
			qty, value = qty+m.Qty, value+x.costs[i].Value+x.costs[i].Var
		}
	}
	return qty, value
}

// stock returns the state.
func (x *model) stock() (s api.Stock) {
	s.Price = x.price()
	for i, m := range x.done {
		s.Qty += x.costs[i].Qty
		switch m.Kind {
		case api.Receipt:
			used, _ := x.returned(api.Send, m.Seq)
			s.Past = append(s.Past, api.Past{Seq: m.Seq, Kind: m.Kind, Lot: m.Lot, Qty: m.Qty, Value: m.Cost, Used: used})
		case api.Issue:
			used, value := x.returned(api.Back, m.Seq)
			s.Past = append(s.Past, api.Past{Seq: m.Seq, Kind: m.Kind, Lot: m.Lot, Qty: m.Qty, Value: -x.costs[i].Value, Used: used, UsedValue: value})
		}
	}
	s.Value, _ = product(s.Qty, s.Price)
	return s
}

// find returns the receipt or issue with this number.
func (x *model) find(kind, seq int) (p api.Past, ok bool) {
	for _, p := range x.stock().Past {
		if p.Kind == kind && p.Seq == seq {
			return p, true
		}
	}
	return api.Past{}, false
}

// step processes a movement.
func (x *model) step(m api.Move) (c api.Cost, e api.Errno) {
	if e = moves.One(m); e != api.OK {
		return c, e
	}
	for _, d := range x.done {
		if d.Seq == m.Seq && (d.Kind == api.Receipt || d.Kind == api.Issue) {
			return c, api.ErrTwice
		}
	}
	if c, e = x.cost(x.stock(), m); e != api.OK {
		return api.Cost{}, e
	}
	x.done, x.costs = append(x.done, m), append(x.costs, c)
	return c, api.OK
}

// cost returns the costs of a movement.
func (x *model) cost(s api.Stock, m api.Move) (c api.Cost, e api.Errno) {
	of := map[int]int{api.Back: api.Issue, api.Send: api.Receipt, api.Landed: api.Receipt}[m.Kind]
	p, ok := x.find(of, m.Ref)
	if of != 0 && !ok {
		return c, api.ErrRef
	}
	if of != 0 && m.Qty > p.Qty-p.Used {
		return c, api.ErrQty
	}
	if (m.Kind == api.Issue || m.Kind == api.Send) && s.Qty < m.Qty {
		return c, api.ErrQty
	}
	qty, price := s.Qty+map[int]int{api.Receipt: m.Qty, api.Back: m.Qty, api.Issue: -m.Qty, api.Send: -m.Qty}[m.Kind], s.Price
	if m.Kind == api.Reprice {
		price = m.Cost
	}
	if _, ok := product(qty, price); !ok || qty > qtyLimit {
		return c, api.ErrOver
	}
	value := m.Qty * price
	switch m.Kind {
	case api.Receipt:
		return api.Cost{Seq: m.Seq, Qty: m.Qty, Value: value, Var: m.Cost - value}, api.OK
	case api.Issue:
		return api.Cost{Seq: m.Seq, Qty: -m.Qty, Value: -value}, api.OK
	case api.Back:
		// An issue has the same price for all its units.
		return api.Cost{Seq: m.Seq, Qty: m.Qty, Value: value, Var: p.Value/p.Qty*m.Qty - value}, api.OK
	case api.Send:
		return api.Cost{Seq: m.Seq, Qty: -m.Qty, Value: -value, Var: value - m.Cost}, api.OK
	case api.Landed:
		return api.Cost{Seq: m.Seq, Var: m.Cost}, api.OK
	}
	value = s.Qty*m.Cost - s.Qty*s.Price
	return api.Cost{Seq: m.Seq, Value: value, Var: -value}, api.OK
}

// random returns the next of some movements. It often has an error, and sometimes the number of another one.
func random(r *rand.Rand, seq int) api.Move {
	kinds := []int{api.Receipt, api.Receipt, api.Receipt, api.Issue, api.Issue, api.Issue, api.Back, api.Back, api.Send, api.Send, api.Landed, api.Reprice}
	m := move(seq, kinds[r.Intn(len(kinds))], 0, 0, 0)
	if r.Intn(10) == 0 {
		m.Seq = 1 + r.Intn(seq)
	}
	sizes := []int{3, 10, 100, qtyLimit}
	switch m.Kind {
	case api.Receipt, api.Issue, api.Back, api.Send:
		m.Qty = 1 + r.Intn(sizes[r.Intn(1+r.Intn(4))])
	}
	switch m.Kind {
	case api.Receipt, api.Send, api.Landed, api.Reprice:
		m.Cost = 1 + r.Intn([]int{20, 1000, 1000000, costLimit}[r.Intn(1+r.Intn(4))])
	}
	switch m.Kind {
	case api.Back, api.Send, api.Landed:
		m.Ref = 1 + r.Intn(seq)
	case api.Receipt, api.Issue:
		m.Lot = []string{"", "a", "b"}[r.Intn(3)]
	}
	if r.Intn(40) == 0 {
		m.Qty = r.Intn(2) * m.Qty * -1
	}
	return m
}

// conserves fails unless the costs and the variance of a movement are what it costs, and the stock has its price.
func conserves(t *testing.T, s, next api.Stock, m api.Move, c api.Cost) {
	t.Helper()
	if next.Qty < 0 || next.Value != next.Qty*next.Price || next.Qty != s.Qty+c.Qty || next.Value != s.Value+c.Value {
		t.Fatalf("the stock is %d, %d, %d", next.Qty, next.Value, next.Price)
	}
	wanted := map[int]int{api.Receipt: m.Cost, api.Landed: m.Cost, api.Send: -m.Cost, api.Issue: c.Value, api.Reprice: 0, api.Back: c.Value + c.Var}
	if c.Value+c.Var != wanted[m.Kind] {
		t.Fatalf("the movement %v costs %v", m, c)
	}
}

// P36.1, P36.2: random movements, compared with the model.
func TestRandom(t *testing.T) {
	r := rand.New(rand.NewSource(36))
	seen := map[api.Errno]int{}
	for range 400 {
		x := &model{start: []int{0, 1, 10, 1000, costLimit}[r.Intn(5)]}
		s := api.Stock{Price: x.start}
		for seq := 1; seq <= 60; seq++ {
			m := random(r, seq)
			before := copied(s)
			c, e := x.step(m)
			seen[e]++
			next := try(t, s, m, c, e)
			if !same(s, before) {
				t.Fatalf("Step(%v) changed %v to %v", m, before, s)
			}
			if e != api.OK {
				continue
			}
			if !same(next, x.stock()) {
				t.Fatalf("Step(%v, %v) = %v, want %v", s, m, next, x.stock())
			}
			conserves(t, s, next, m, c)
			s = next
		}
	}
	for _, e := range []api.Errno{api.OK, api.ErrTwice, api.ErrRef, api.ErrQty, api.ErrOver, api.ErrRange} {
		if seen[e] < 50 {
			t.Errorf("the error %d occurred %d times", e, seen[e])
		}
	}
}

// P36.1: the state that was given stays as it is, with what lies behind its list in memory, and results are new.
func TestMemory(t *testing.T) {
	s := run(t, api.Stock{Price: 3}, in("a", receipt(1, 4, 10)), receipt(2, 2, 8), receipt(3, 5, 7), issue(4, 3))
	behind := s
	behind.Past = append(slices.Clone(s.Past), api.Past{Seq: -1}, api.Past{Seq: -2})[:len(s.Past)]
	for _, m := range []api.Move{in("b", receipt(5, 1, 9)), issue(5, 1), issue(5, 8), back(5, 2, 4), send(5, 1, 1, 1), send(5, 2, 1, 2), landed(5, 9, 2), issue(5, 9), reprice(5, 3), reprice(5, 4)} {
		first, c, e := standard.Step(behind, m)
		second, d, f := standard.Step(behind, m)
		if c != d || e != f {
			t.Errorf("Step(%v) = %v, %v, %d, then %v, %d", m, first, c, e, d, f)
		}
		kept := copied(second)
		for i := range first.Past {
			first.Past[i].Value = -9
		}
		_ = append(first.Past, api.Past{Seq: 9})
		if !same(second, kept) || !same(behind, s) {
			t.Errorf("Step(%v) shares memory: %v, %v", m, second, behind)
		}
		if list := behind.Past[:len(s.Past)+2]; list[len(s.Past)].Seq != -1 || list[len(s.Past)+1].Seq != -2 {
			t.Errorf("Step(%v) wrote behind %v", m, list)
		}
	}
}

// P36.1: empty lists are as good as none.
func TestEmptyLists(t *testing.T) {
	empty := api.Stock{Price: 3, Layers: []api.Layer{}, Past: []api.Past{}}
	for _, m := range []api.Move{receipt(1, 4, 10), reprice(1, 5)} {
		none, c, _ := standard.Step(api.Stock{Price: 3}, m)
		if s := try(t, empty, m, c, api.OK); !same(s, none) {
			t.Errorf("Step(%v) = %v, want %v", m, s, none)
		}
	}
	refuse(t, empty, issue(1, 1), api.ErrQty)
}

// P36.1: Step terminates without a panic for states that no Step returned.
func TestOtherStates(t *testing.T) {
	r := rand.New(rand.NewSource(37))
	numbers := []int{0, 1, 2, 3, 5, -1, -3, qtyLimit, most, least, least + 1}
	number := func() int { return numbers[r.Intn(len(numbers))] }
	for range 50000 {
		s := api.Stock{Qty: number(), Value: number(), Price: number()}
		for range r.Intn(4) {
			s.Layers = append(s.Layers, api.Layer{Seq: r.Intn(3), Qty: number(), Value: number()})
			s.Past = append(s.Past, api.Past{Seq: r.Intn(3), Kind: r.Intn(4), Qty: number(), Value: number(), Used: number(), UsedValue: number()})
		}
		standard.Step(s, random(r, 1+r.Intn(5)))
	}
}
