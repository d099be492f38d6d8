// Package past keeps the receipts and issues of a product, to which returns and landed costs refer. The costing methods share it: see shared/doc/34-fifo.md to shared/doc/37-lots.md.
package past

import (
	"slices"

	"accounting/api"
	"accounting/moves"
	"accounting/muldiv"
)

// Check returns the index of the movement to which m refers, or -1 if it refers to none, and the first error that m has with every costing method: the error of moves' One, ErrTwice if l contains the number of m, ErrRef if it does not contain the movement to which m refers, ErrQty if less is left of this than m returns.
func Check(l []api.Past, m api.Move) (at int, e api.Errno) {
	if e = moves.One(m); e != api.OK {
		return -1, e
	}
	if slices.ContainsFunc(l, func(p api.Past) bool { return p.Seq == m.Seq }) {
		return -1, api.ErrTwice
	}
	// Only the movements that refer to another one have a number there.
	if m.Ref == 0 {
		return -1, api.OK
	}
	kind := api.Receipt
	if m.Kind == api.Back {
		kind = api.Issue
	}
	at = slices.IndexFunc(l, func(p api.Past) bool { return p.Seq == m.Ref && p.Kind == kind })
	switch {
	case at < 0:
		return -1, api.ErrRef
	case m.Qty > l[at].Qty-l[at].Used:
		return -1, api.ErrQty
	}
	return at, api.OK
}

// Share returns the share of a returned quantity in what is left of the value of an issue. All that is left has all of the value.
func Share(p api.Past, qty int) (value int) {
	value, _ = muldiv.MulDiv(p.Value-p.UsedValue, qty, p.Qty-p.Used, api.Even)
	return value
}

// Next returns the element that a movement with these costs adds, or what becomes of the one to which it refers: p, which is empty if it refers to none.
func Next(p api.Past, m api.Move, c api.Cost) api.Past {
	// Value and Var together are what a receipt costs, what an issue takes away, and what a return of a customer brings back.
	value := c.Value + c.Var
	switch m.Kind {
	case api.Receipt:
		return api.Past{Seq: m.Seq, Kind: m.Kind, Lot: m.Lot, Qty: m.Qty, Value: value}
	case api.Issue:
		return api.Past{Seq: m.Seq, Kind: m.Kind, Lot: m.Lot, Qty: m.Qty, Value: -value}
	case api.Back:
		p.Used += m.Qty
		p.UsedValue += value
	case api.Send:
		p.Used += m.Qty
	}
	return p
}

// Record changes l as a movement with these costs does, which refers to the element at this index, or to none if it is -1, and returns l with what it appended.
func Record(l []api.Past, at int, m api.Move, c api.Cost) []api.Past {
	if at >= 0 {
		l[at] = Next(l[at], m, c)
		return l
	}
	added := Next(api.Past{}, m, c)
	if added == (api.Past{}) {
		return l
	}
	return append(l, added)
}
