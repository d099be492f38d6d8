package costing_test

import (
	"math"
	"math/big"
	"math/rand"
	"slices"
	"testing"

	"accounting/api"
	"accounting/average"
	"accounting/costing"
	"accounting/fifo"
	"accounting/lots"
	"accounting/standard"
)

const most, least, qtyLimit, costLimit, sumLimit = math.MaxInt, math.MinInt, api.MaxQty, api.MaxAmount, api.MaxSum

var methods = []int{api.Fifo, api.Moving, api.Standard, api.Lots}

var unknown = []int{0, 5, -1, 9, most, least}

// move returns a movement of the item x, on the day of its number.
func move(seq, kind, qty, cost, ref int, lot string) api.Move {
	return api.Move{Seq: seq, Value: seq, Item: "x", Kind: kind, Qty: qty, Cost: cost, Ref: ref, Lot: lot}
}

func receipt(seq, qty, cost int, lot string) api.Move {
	return move(seq, api.Receipt, qty, cost, 0, lot)
}

func issue(seq, qty int, lot string) api.Move {
	return move(seq, api.Issue, qty, 0, 0, lot)
}

// same reports whether two states are equal.
func same(a, b api.Stock) bool {
	return a.Qty == b.Qty && a.Value == b.Value && a.Price == b.Price && slices.Equal(a.Layers, b.Layers) && slices.Equal(a.Past, b.Past)
}

// step is the Step of a method's layer.
func step(method int, s api.Stock, m api.Move) (api.Stock, api.Cost, api.Errno) {
	switch method {
	case api.Fifo:
		return fifo.Step(s, m)
	case api.Moving:
		return average.Step(s, m)
	case api.Standard:
		return standard.Step(s, m)
	case api.Lots:
		return lots.Step(s, m)
	}
	return api.Stock{}, api.Cost{}, api.ErrKind
}

// P38.1, P38.2: the chapter's examples.
func TestExamples(t *testing.T) {
	l := []api.Move{receipt(1, 10, 100, ""), receipt(2, 10, 140, ""), issue(3, 5, "")}
	for _, c := range []struct {
		method, qty, value, price int
		costs                     []api.Cost
	}{
		{api.Fifo, 15, 190, 0, []api.Cost{{Seq: 1, Qty: 10, Value: 100}, {Seq: 2, Qty: 10, Value: 140}, {Seq: 3, Qty: -5, Value: -50}}},
		{api.Moving, 15, 180, 0, []api.Cost{{Seq: 1, Qty: 10, Value: 100}, {Seq: 2, Qty: 10, Value: 140}, {Seq: 3, Qty: -5, Value: -60}}},
		{api.Standard, 15, 165, 11, []api.Cost{{Seq: 1, Qty: 10, Value: 110, Var: -10}, {Seq: 2, Qty: 10, Value: 110, Var: 30}, {Seq: 3, Qty: -5, Value: -55}}},
	} {
		s, costs, at, e := costing.Run(c.method, 11, l)
		if s.Qty != c.qty || s.Value != c.value || s.Price != c.price || !slices.Equal(costs, c.costs) || at != -1 || e != api.OK {
			t.Errorf("Run(%d) = %v, %v, %d, %d", c.method, s, costs, at, e)
		}
	}
	fail(t, api.Lots, 11, l, 0, api.ErrItem)
	fail(t, 5, 11, l, -1, api.ErrKind)
	l = []api.Move{receipt(1, 10, 100, "b"), receipt(2, 10, 140, "a"), issue(3, 5, "a")}
	s, costs, at, e := costing.Run(api.Lots, 11, l)
	if !slices.Equal(s.Layers, []api.Layer{{Lot: "a", Qty: 5, Value: 70}, {Lot: "b", Qty: 10, Value: 100}}) || s.Price != 0 || costs[2] != (api.Cost{Seq: 3, Qty: -5, Value: -70}) || at != -1 || e != api.OK {
		t.Errorf("Run(Lots) = %v, %v, %d, %d", s, costs, at, e)
	}
}

// fail fails unless Run returns this index and this error, and nothing else.
func fail(t *testing.T, method, price int, l []api.Move, at int, e api.Errno) {
	t.Helper()
	s, costs, i, f := costing.Run(method, price, l)
	if !same(s, api.Stock{}) || len(costs) != 0 || i != at || f != e {
		t.Errorf("Run(%d, %d, %v) = %v, %v, %d, %d, want %d, %d", method, price, l, s, costs, i, f, at, e)
	}
}

// P38.1: Start keeps a standard price only, and checks each price.
func TestStart(t *testing.T) {
	for _, method := range methods {
		for _, price := range []int{0, 1, 11, costLimit - 1, costLimit} {
			wanted := api.Stock{}
			if method == api.Standard {
				wanted.Price = price
			}
			if s, e := costing.Start(method, price); !same(s, wanted) || e != api.OK {
				t.Errorf("Start(%d, %d) = %v, %d, want %v", method, price, s, e, wanted)
			}
		}
		for _, price := range []int{-1, costLimit + 1, least, most} {
			if s, e := costing.Start(method, price); !same(s, api.Stock{}) || e != api.ErrRange {
				t.Errorf("Start(%d, %d) = %v, %d", method, price, s, e)
			}
			fail(t, method, price, nil, -1, api.ErrRange)
			fail(t, method, price, []api.Move{{}}, -1, api.ErrRange)
		}
	}
	for _, method := range unknown {
		for _, price := range []int{0, 1, costLimit, -1, costLimit + 1, least, most} {
			if s, e := costing.Start(method, price); !same(s, api.Stock{}) || e != api.ErrKind {
				t.Errorf("Start(%d, %d) = %v, %d", method, price, s, e)
			}
			fail(t, method, price, nil, -1, api.ErrKind)
			fail(t, method, price, []api.Move{{}}, -1, api.ErrKind)
		}
	}
}

// P38.1: Step with an unknown method, whatever the movement is.
func TestUnknownMethods(t *testing.T) {
	for _, method := range unknown {
		for _, m := range []api.Move{{}, receipt(1, 1, 1, "a"), issue(1, 1, "a"), receipt(1, qtyLimit+1, 1, "a")} {
			for _, s := range []api.Stock{{}, {Qty: 1, Value: 1, Price: 1, Layers: []api.Layer{{Qty: 1, Value: 1}}}} {
				if next, c, e := costing.Step(method, s, m); !same(next, api.Stock{}) || c != (api.Cost{}) || e != api.ErrKind {
					t.Errorf("Step(%d, %v, %v) = %v, %v, %d", method, s, m, next, c, e)
				}
			}
		}
	}
}

// P38.2: no movements, one, and the first that has an error.
func TestRun(t *testing.T) {
	for _, method := range methods {
		for _, l := range [][]api.Move{nil, {}} {
			start, _ := costing.Start(method, 7)
			if s, costs, at, e := costing.Run(method, 7, l); !same(s, start) || len(costs) != 0 || at != -1 || e != api.OK {
				t.Errorf("Run(%d, %v) = %v, %v, %d, %d", method, l, s, costs, at, e)
			}
		}
		l := []api.Move{receipt(4, 3, 21, "a"), issue(2, 1, "a"), receipt(9, 2, 14, "a")}
		if s, costs, at, e := costing.Run(method, 7, l); s.Qty != 4 || s.Value != 28 || !slices.Equal(costs, []api.Cost{{Seq: 4, Qty: 3, Value: 21}, {Seq: 2, Qty: -1, Value: -7}, {Seq: 9, Qty: 2, Value: 14}}) || at != -1 || e != api.OK {
			t.Errorf("Run(%d, %v) = %v, %v, %d, %d", method, l, s, costs, at, e)
		}
		for _, c := range []struct {
			m api.Move
			e api.Errno
		}{
			{api.Move{}, api.ErrName}, {issue(5, 5, "a"), api.ErrQty}, {receipt(2, 1, 1, "a"), api.ErrTwice}, {move(5, api.Back, 1, 0, 4, ""), api.ErrRef}, {move(5, api.Back, 2, 0, 2, ""), api.ErrQty}, {receipt(5, qtyLimit, 1, "a"), api.ErrOver},
		} {
			fail(t, method, 7, append(slices.Clip(l), c.m), 3, c.e)
			fail(t, method, 7, append(slices.Clip(l), c.m, api.Move{}, receipt(6, 1, 1, "a")), 3, c.e)
		}
		fail(t, method, 7, append([]api.Move{issue(1, 1, "a")}, l...), 0, map[int]api.Errno{api.Fifo: api.ErrQty, api.Moving: api.ErrQty, api.Standard: api.ErrQty, api.Lots: api.ErrItem}[method])
	}
	reprice := []api.Move{receipt(1, 3, 30, "a"), move(2, api.Reprice, 0, 12, 0, "")}
	for _, method := range []int{api.Fifo, api.Moving, api.Lots} {
		fail(t, method, 10, reprice, 1, api.ErrKind)
	}
	if s, costs, at, e := costing.Run(api.Standard, 10, reprice); s.Value != 36 || s.Price != 12 || costs[1] != (api.Cost{Seq: 2, Value: 6, Var: -6}) || at != -1 || e != api.OK {
		t.Errorf("Run(Standard) = %v, %v, %d, %d", s, costs, at, e)
	}
}

// P38.3: a stock at the limits, whose costs add up to more than the limit in between.
func TestLimits(t *testing.T) {
	for _, method := range methods {
		var l []api.Move
		for i := range 1000 {
			l = append(l, receipt(1+i, 1, costLimit, "a"))
		}
		l = append(l, issue(2000, 1000, "a"), move(2001, api.Back, 1000, 0, 2000, ""))
		s, costs, at, e := costing.Run(method, costLimit, l)
		if s.Qty != 1000 || s.Value != sumLimit || len(costs) != 1002 || costs[1000].Value != -sumLimit || at != -1 || e != api.OK {
			t.Errorf("Run(%d) = %d, %d, %d costs, %d, %d", method, s.Qty, s.Value, len(costs), at, e)
		}
		fail(t, method, costLimit, append(l, receipt(3000, 1, 1, "a")), 1002, api.ErrOver)
	}
}

// random returns the next of some movements. It often has an error.
func random(r *rand.Rand, seq int) api.Move {
	kinds := []int{api.Receipt, api.Receipt, api.Receipt, api.Issue, api.Issue, api.Back, api.Send, api.Landed, api.Reprice}
	m := move(seq, kinds[r.Intn(len(kinds))], 0, 0, 0, "")
	switch m.Kind {
	case api.Receipt, api.Issue, api.Back, api.Send:
		m.Qty = 1 + r.Intn([]int{3, 10, 100, qtyLimit}[r.Intn(1+r.Intn(4))])
	}
	switch m.Kind {
	case api.Receipt, api.Send, api.Landed, api.Reprice:
		m.Cost = 1 + r.Intn([]int{20, 1000, costLimit}[r.Intn(1+r.Intn(3))])
	}
	switch m.Kind {
	case api.Back, api.Send, api.Landed:
		m.Ref = 1 + r.Intn(seq)
	case api.Receipt, api.Issue:
		m.Lot = []string{"a", "b"}[r.Intn(2)]
	}
	return m
}

// P38.1, P38.2: Step and Run, compared with the Steps of the methods, one by one.
func TestSteps(t *testing.T) {
	r := rand.New(rand.NewSource(38))
	for i := range 400 {
		method, price := methods[i%4], r.Intn(20)
		s, e := costing.Start(method, price)
		if e != api.OK {
			t.Fatalf("Start = %d", e)
		}
		var l []api.Move
		var costs []api.Cost
		for seq := 1; seq <= 40; seq++ {
			m := random(r, seq)
			wanted, cost, f := step(method, s, m)
			next, c, e := costing.Step(method, s, m)
			if !same(next, wanted) || c != cost || e != f {
				t.Fatalf("Step(%d, %v, %v) = %v, %v, %d, want %v, %v, %d", method, s, m, next, c, e, wanted, cost, f)
			}
			if e != api.OK {
				fail(t, method, price, append(slices.Clip(l), m, m), len(l), e)
				continue
			}
			s, l, costs = next, append(l, m), append(costs, c)
			if all, ran, at, e := costing.Run(method, price, l); !same(all, s) || !slices.Equal(ran, costs) || at != -1 || e != api.OK {
				t.Fatalf("Run(%d, %v) = %v, %v, %d, %d, want %v, %v", method, l, all, ran, at, e, s, costs)
			}
		}
	}
}

// P38.3: the stock is the sum of the costs, and the costs are those of the movements.
func TestConservation(t *testing.T) {
	r := rand.New(rand.NewSource(39))
	for i := range 400 {
		method, price := methods[i%4], r.Intn(20)
		var l []api.Move
		for seq := 1; seq <= 60; seq++ {
			m := random(r, seq)
			if _, _, _, e := costing.Run(method, price, append(slices.Clip(l), m)); e == api.OK {
				l = append(l, m)
			}
		}
		s, costs, _, e := costing.Run(method, price, l)
		if e != api.OK || len(costs) != len(l) {
			t.Fatalf("Run = %d, %d", len(costs), e)
		}
		qty, value := 0, 0
		paid, whole := new(big.Int), new(big.Int)
		for i, m := range l {
			qty, value = qty+costs[i].Qty, value+costs[i].Value
			whole.Add(whole, big.NewInt(int64(costs[i].Value+costs[i].Var)))
			switch m.Kind {
			case api.Receipt, api.Landed:
				paid.Add(paid, big.NewInt(int64(m.Cost)))
			case api.Send:
				paid.Sub(paid, big.NewInt(int64(m.Cost)))
			}
		}
		for _, p := range s.Past {
			if p.Kind == api.Issue {
				paid.Add(paid, big.NewInt(int64(p.UsedValue-p.Value)))
			}
		}
		if s.Qty != qty || s.Value != value || whole.Cmp(paid) != 0 {
			t.Fatalf("Run(%d, %v) = %v, %v, want %d, %d, and %v in sum, not %v", method, l, s, costs, qty, value, paid, whole)
		}
	}
}

// P38.1, P38.2: movements and states stay as they are, and results are new.
func TestMemory(t *testing.T) {
	for _, method := range methods {
		l := []api.Move{receipt(1, 4, 10, "a"), receipt(2, 2, 8, "b"), issue(3, 1, "a"), {Seq: -1}}[:3]
		given := slices.Clone(l[:4])
		s, costs, _, _ := costing.Run(method, 3, l)
		again, same2, _, _ := costing.Run(method, 3, l)
		kept := api.Stock{Qty: again.Qty, Value: again.Value, Price: again.Price, Layers: slices.Clone(again.Layers), Past: slices.Clone(again.Past)}
		keptCosts := slices.Clone(same2)
		spoil(s)
		costs[0].Value = -9
		if !same(again, kept) || !slices.Equal(same2, keptCosts) || !slices.Equal(l[:4], given) {
			t.Errorf("Run(%d) shares memory: %v, %v, %v", method, again, same2, l[:4])
		}
		next, _, e := costing.Step(method, again, receipt(4, 1, 1, "a"))
		spoil(next)
		if !same(again, kept) || e != api.OK {
			t.Errorf("Step(%d) shares memory: %v, %d", method, again, e)
		}
	}
}

// spoil changes the elements of a state.
func spoil(s api.Stock) {
	for i := range s.Layers {
		s.Layers[i].Value = -9
	}
	for i := range s.Past {
		s.Past[i].Value = -9
	}
}

// P38.1: Step terminates without a panic for states that no Step returned, and movements that are none.
func TestOtherStates(t *testing.T) {
	r := rand.New(rand.NewSource(40))
	numbers := []int{0, 1, 2, 3, 5, -1, -3, qtyLimit, most, least, least + 1}
	number := func() int { return numbers[r.Intn(len(numbers))] }
	for range 50000 {
		s := api.Stock{Qty: number(), Value: number(), Price: number()}
		for range r.Intn(4) {
			s.Layers = append(s.Layers, api.Layer{Seq: r.Intn(3), Lot: "a", Qty: number(), Value: number()})
			s.Past = append(s.Past, api.Past{Seq: r.Intn(3), Kind: r.Intn(4), Lot: "a", Qty: number(), Value: number(), Used: number(), UsedValue: number()})
		}
		costing.Step(r.Intn(6), s, random(r, 1+r.Intn(5)))
		costing.Step(number(), s, api.Move{Seq: number(), Value: number(), Kind: r.Intn(7), Qty: number(), Cost: number(), Ref: number()})
	}
}
