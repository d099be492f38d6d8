// Package past keeps the receipts and issues of a product, to which returns and landed costs refer. The costing methods share it: see shared/doc/34-fifo.md to shared/doc/37-lots.md.
package past

import (
	"slices"

	"accounting/api"
	"accounting/moves"
	"accounting/muldiv"
)

// Check returns the index of the movement to which m refers, or -1 if it refers to none, and the first error that m has with every costing method: the error of moves' One, ErrTwice if l contains the number of m, ErrRef if it does not contain the movement to which m refers, ErrQty if less is left of this than m returns.
func Check(l []api.Past, m api.Move) (at int, e api.Errno) {
	if e = moves.One(m); e != api.OK {
		return -1, e
	}
	if slices.ContainsFunc(l, func(p api.Past) bool { return p.Seq == m.Seq }) {
		return -1, api.ErrTwice
	}
	// Only the movements that refer to another one have a number there.
	if m.Ref == 0 {
		return -1, api.OK
	}
	kind := api.Receipt
	if m.Kind == api.Back {
		kind = api.Issue
	}
	at = slices.IndexFunc(l, func(p api.Past) bool { return p.Seq == m.Ref && p.Kind == kind })
	switch {
	case at < 0:
		return -1, api.ErrRef
	case m.Qty > l[at].Qty-l[at].Used:
		return -1, api.ErrQty
	}
	return at, api.OK
}

// Share returns the share of a returned quantity in what is left of the value of an issue. All that is left has all of the value.
func Share(p api.Past, qty int) (value int) {
	value, _ = muldiv.MulDiv(p.Value-p.UsedValue, qty, p.Qty-p.Used, api.Even)
	return value
}

// Record changes l as the movement m does, which has these costs and refers to the movement at this index, and returns l with what it appended.
func Record(l []api.Past, at int, m api.Move, c api.Cost) []api.Past {
	// Value and Var together are what a receipt costs, what an issue takes away, and what a return of a customer brings back.
	value := c.Value + c.Var
	switch m.Kind {
	case api.Receipt:
		return append(l, api.Past{Seq: m.Seq, Kind: m.Kind, Lot: m.Lot, Qty: m.Qty, Value: value})
	case api.Issue:
		return append(l, api.Past{Seq: m.Seq, Kind: m.Kind, Lot: m.Lot, Qty: m.Qty, Value: -value})
	case api.Back:
		l[at].Used += m.Qty
		l[at].UsedValue += value
	case api.Send:
		l[at].Used += m.Qty
	}
	return l
}
