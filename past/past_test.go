package past_test

import (
	"slices"
	"testing"

	"accounting/api"
	"accounting/past"
)

// list returns a receipt, of which 2 of 5 units were returned, and an issue, of which 1 of 3 was, with the part 4 of its value 10.
func list() []api.Past {
	return []api.Past{{Seq: 4, Kind: api.Receipt, Qty: 5, Value: 50, Used: 2}, {Seq: 2, Kind: api.Issue, Qty: 3, Value: 10, Used: 1, UsedValue: 4}}
}

// move returns a movement of the item x.
func move(seq, kind, qty, cost, ref int) api.Move {
	return api.Move{Seq: seq, Item: "x", Kind: kind, Qty: qty, Cost: cost, Ref: ref}
}

// P34.1, P35.1, P36.1, P37.1: the movement to which another one refers, and the errors that all methods have, in their order.
func TestCheck(t *testing.T) {
	for _, c := range []struct {
		m  api.Move
		at int
		e  api.Errno
	}{
		{move(9, api.Receipt, 1, 1, 0), -1, api.OK}, {move(9, api.Issue, 99, 0, 0), -1, api.OK}, {move(9, api.Reprice, 0, 1, 0), -1, api.OK},
		{move(9, api.Back, 2, 0, 2), 1, api.OK}, {move(9, api.Send, 3, 0, 4), 0, api.OK}, {move(9, api.Landed, 0, 1, 4), 0, api.OK},
		{move(9, api.Back, 3, 0, 2), -1, api.ErrQty}, {move(9, api.Send, 4, 0, 4), -1, api.ErrQty},
		{move(9, api.Back, 3, 0, 4), -1, api.ErrRef}, {move(9, api.Send, 4, 0, 2), -1, api.ErrRef}, {move(9, api.Landed, 0, 1, 2), -1, api.ErrRef}, {move(9, api.Landed, 0, 1, 3), -1, api.ErrRef},
		{move(2, api.Back, 3, 0, 4), -1, api.ErrTwice}, {move(4, api.Reprice, 0, 1, 0), -1, api.ErrTwice}, {move(4, api.Reprice, 0, -1, 0), -1, api.ErrRange},
	} {
		if at, e := past.Check(list(), c.m); at != c.at || e != c.e {
			t.Errorf("Check(%v) = %d, %d, want %d, %d", c.m, at, e, c.at, c.e)
		}
	}
}

// P34.1, P35.1, P36.1, P37.1: the share of what is left, with halves rounded to the even integer.
func TestShare(t *testing.T) {
	for _, c := range []struct{ value, usedValue, qty, wanted int }{{10, 4, 1, 3}, {10, 4, 2, 6}, {5, 0, 1, 2}, {7, 0, 1, 4}, {9, 2, 2, 7}} {
		p := api.Past{Kind: api.Issue, Qty: 3, Used: 1, Value: c.value, UsedValue: c.usedValue}
		if n := past.Share(p, c.qty); n != c.wanted {
			t.Errorf("Share(%v, %d) = %d, want %d", p, c.qty, n, c.wanted)
		}
	}
}

// P34.1, P35.1, P36.1, P37.1: what each kind of movement changes. The list does not depend on which part of a cost is a variance.
func TestRecord(t *testing.T) {
	for _, variance := range []int{0, 5, -5} {
		for _, c := range []struct {
			m      api.Move
			at     int
			cost   api.Cost
			wanted []api.Past
		}{
			{move(9, api.Receipt, 7, 70, 0), -1, api.Cost{Value: 70 - variance, Var: variance}, append(list(), api.Past{Seq: 9, Kind: api.Receipt, Lot: "l", Qty: 7, Value: 70})},
			{move(9, api.Issue, 7, 0, 0), -1, api.Cost{Value: -70 - variance, Var: variance}, append(list(), api.Past{Seq: 9, Kind: api.Issue, Lot: "l", Qty: 7, Value: 70})},
			{move(9, api.Back, 2, 0, 2), 1, api.Cost{Value: 6 - variance, Var: variance}, []api.Past{list()[0], {Seq: 2, Kind: api.Issue, Qty: 3, Value: 10, Used: 3, UsedValue: 10}}},
			{move(9, api.Send, 3, 8, 4), 0, api.Cost{Value: -30, Var: 22 + variance}, []api.Past{{Seq: 4, Kind: api.Receipt, Qty: 5, Value: 50, Used: 5}, list()[1]}},
			{move(9, api.Landed, 0, 8, 4), 0, api.Cost{Value: 3, Var: 5 + variance}, list()},
			{move(9, api.Reprice, 0, 8, 0), -1, api.Cost{Value: 3, Var: -3 + variance}, list()},
		} {
			if c.at < 0 {
				c.m.Lot = "l"
			}
			if l := past.Record(list(), c.at, c.m, c.cost); !slices.Equal(l, c.wanted) {
				t.Errorf("Record(%v, %v) = %v, want %v", c.m, c.cost, l, c.wanted)
			}
		}
	}
}

// P36.1: what a movement adds, and what becomes of the one to which it refers.
func TestNext(t *testing.T) {
	receipt, issue := list()[0], list()[1]
	for _, c := range []struct {
		of     api.Past
		m      api.Move
		cost   api.Cost
		wanted api.Past
	}{
		{api.Past{}, api.Move{Seq: 9, Kind: api.Receipt, Lot: "l", Qty: 7}, api.Cost{Value: 77, Var: -7}, api.Past{Seq: 9, Kind: api.Receipt, Lot: "l", Qty: 7, Value: 70}},
		{api.Past{}, api.Move{Seq: 9, Kind: api.Issue, Lot: "l", Qty: 7}, api.Cost{Value: -77}, api.Past{Seq: 9, Kind: api.Issue, Lot: "l", Qty: 7, Value: 77}},
		{api.Past{}, move(9, api.Reprice, 0, 8, 0), api.Cost{Value: 3, Var: -3}, api.Past{}},
		{issue, move(9, api.Back, 1, 0, 2), api.Cost{Value: 5, Var: -2}, api.Past{Seq: 2, Kind: api.Issue, Qty: 3, Value: 10, Used: 2, UsedValue: 7}},
		{receipt, move(9, api.Send, 2, 8, 4), api.Cost{Value: -20, Var: 12}, api.Past{Seq: 4, Kind: api.Receipt, Qty: 5, Value: 50, Used: 4}},
		{receipt, move(9, api.Landed, 0, 8, 4), api.Cost{Value: 3, Var: 5}, receipt},
	} {
		if p := past.Next(c.of, c.m, c.cost); p != c.wanted {
			t.Errorf("Next(%v, %v, %v) = %v, want %v", c.of, c.m, c.cost, p, c.wanted)
		}
	}
}
