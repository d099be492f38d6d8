package moves_test

import (
	"math"
	"math/big"
	"math/rand"
	"slices"
	"strings"
	"testing"

	"accounting/api"
	"accounting/moves"
	"accounting/split"
)

const most, least, qtyLimit, costLimit = math.MaxInt, math.MinInt, api.MaxQty, api.MaxAmount

// kinds are all kinds of movements, and noKinds integers that are none.
var (
	kinds   = []int{api.Receipt, api.Issue, api.Back, api.Send, api.Landed, api.Reprice}
	noKinds = []int{0, -1, 7, 8, most, least}
)

// noDays are integers that are not days, and noCodes texts that are neither codes nor empty.
var (
	noDays  = []int{-1, api.MaxDay + 1, -api.MaxDay, most, least}
	noCodes = []string{" ", "a b", "a-b", "é", "a\x00", "ab.", strings.Repeat("a", 13)}
)

// of returns a movement of the item x on day 10 with this kind, which has what its kind needs.
func of(kind int) api.Move {
	m := api.Move{Value: 10, Item: "x", Kind: kind}
	switch kind {
	case api.Receipt, api.Issue, api.Back, api.Send:
		m.Qty = 3
	case api.Landed:
		m.Cost = 1
	}
	switch kind {
	case api.Back, api.Send, api.Landed:
		m.Ref = 1
	}
	return m
}

// receipt, issue, back, send and landed return movements of the item x on this day.
func receipt(day, qty, cost int) api.Move {
	return api.Move{Value: day, Item: "x", Kind: api.Receipt, Qty: qty, Cost: cost}
}

func issue(day, qty int) api.Move {
	return api.Move{Value: day, Item: "x", Kind: api.Issue, Qty: qty}
}

func back(day, qty, ref int) api.Move {
	return api.Move{Value: day, Item: "x", Kind: api.Back, Qty: qty, Ref: ref}
}

func send(day, qty, ref int) api.Move {
	return api.Move{Value: day, Item: "x", Kind: api.Send, Qty: qty, Ref: ref}
}

func landed(day, cost, ref int) api.Move {
	return api.Move{Value: day, Item: "x", Kind: api.Landed, Cost: cost, Ref: ref}
}

// numbered returns the movements with the Seqs 1, 2 and so on.
func numbered(l ...api.Move) []api.Move {
	for i := range l {
		l[i].Seq = i + 1
	}
	return l
}

// repeated returns n receipts.
func repeated(n int) []api.Move {
	return numbered(slices.Repeat([]api.Move{receipt(10, 1, 1)}, n)...)
}

// example returns the movements of the chapter's examples.
func example() []api.Move {
	return numbered(receipt(10, 5, 50), receipt(9, 1, 30), issue(10, 4), back(12, 2, 3))
}

// wantOne fails unless One returns this error.
func wantOne(t *testing.T, m api.Move, wanted api.Errno) {
	t.Helper()
	if e := moves.One(m); e != wanted {
		t.Errorf("One(%v) = %d, want %d", m, e, wanted)
	}
}

// wantCheck fails unless Check returns this index and this error.
func wantCheck(t *testing.T, l []api.Move, at int, e api.Errno) {
	t.Helper()
	if n, f := moves.Check(l); n != at || f != e {
		if len(l) > 20 {
			l = l[:20]
		}
		t.Errorf("Check(%v) = %d, %d, want %d, %d", l, n, f, at, e)
	}
}

// wantLevels fails unless Levels returns these quantities.
func wantLevels(t *testing.T, l []api.Move, wanted ...int) {
	t.Helper()
	if qtys, at, e := moves.Levels(l); !slices.Equal(qtys, wanted) || at != -1 || e != api.OK {
		t.Errorf("Levels(%v) = %v, %d, %d, want %v", l, qtys, at, e, wanted)
	}
}

// wantNoLevels fails unless Levels returns this index and this error.
func wantNoLevels(t *testing.T, l []api.Move, at int, e api.Errno) {
	t.Helper()
	if qtys, n, f := moves.Levels(l); len(qtys) != 0 || n != at || f != e {
		t.Errorf("Levels(%v) = %v, %d, %d, want %d, %d", l, qtys, n, f, at, e)
	}
}

// wantLanded fails unless Landed returns these movements.
func wantLanded(t *testing.T, l []api.Move, refs []int, amount int, byCost bool, value int, wanted ...api.Move) {
	t.Helper()
	if m, e := moves.Landed(l, refs, amount, byCost, value); !slices.Equal(m, wanted) || e != api.OK {
		t.Errorf("Landed(%v, %d, %t, %d) = %v, %d, want %v", refs, amount, byCost, value, m, e, wanted)
	}
}

// wantNoLanded fails unless Landed returns this error.
func wantNoLanded(t *testing.T, l []api.Move, refs []int, amount int, byCost bool, value int, wanted api.Errno) {
	t.Helper()
	if m, e := moves.Landed(l, refs, amount, byCost, value); len(m) != 0 || e != wanted {
		t.Errorf("Landed(%v, %d, %t, %d) = %v, %d, want %d", refs, amount, byCost, value, m, e, wanted)
	}
}

// P33.1, P33.2, P33.3: the chapter's examples.
func TestExamples(t *testing.T) {
	l := example()
	wantCheck(t, l, -1, api.OK)
	o := moves.Order(l)
	if !slices.Equal(o, []api.Move{l[1], l[0], l[2], l[3]}) {
		t.Errorf("Order(%v) = %v", l, o)
	}
	wantLevels(t, o, 1, 6, 2, 4)
	wantCheck(t, numbered(append(l, back(12, 3, 3))...), 4, api.ErrQty)
	wantLanded(t, l, []int{1, 2}, 10, false, 10, api.Move{Seq: 5, Value: 10, Item: "x", Kind: api.Landed, Cost: 8, Ref: 1}, api.Move{Seq: 6, Value: 10, Item: "x", Kind: api.Landed, Cost: 2, Ref: 2})
	wantLanded(t, l, []int{1, 2}, 10, true, 10, api.Move{Seq: 5, Value: 10, Item: "x", Kind: api.Landed, Cost: 6, Ref: 1}, api.Move{Seq: 6, Value: 10, Item: "x", Kind: api.Landed, Cost: 4, Ref: 2})
}

// P33.1: movements at the limits.
func TestOneLimits(t *testing.T) {
	long := strings.Repeat("z", 12)
	for _, kind := range kinds {
		for _, change := range []func(m *api.Move){
			func(m *api.Move) {},
			func(m *api.Move) { m.Value = 0 },
			func(m *api.Move) { m.Value = api.MaxDay },
			func(m *api.Move) { m.Item = long },
			func(m *api.Move) { m.Item = "_" },
			// By itself a movement can have any number, and refer to any other one.
			func(m *api.Move) { m.Seq = least },
			func(m *api.Move) { m.Seq = most },
			func(m *api.Move) { m.Ref *= most },
		} {
			m := of(kind)
			change(&m)
			wantOne(t, m, api.OK)
		}
	}
	for _, kind := range []int{api.Receipt, api.Issue, api.Back, api.Send} {
		for _, qty := range []int{1, qtyLimit} {
			m := of(kind)
			m.Qty = qty
			wantOne(t, m, api.OK)
		}
	}
	for _, kind := range []int{api.Receipt, api.Send, api.Landed, api.Reprice} {
		for _, cost := range []int{1, costLimit} {
			m := of(kind)
			m.Cost = cost
			wantOne(t, m, api.OK)
		}
	}
	for _, kind := range []int{api.Receipt, api.Issue} {
		for _, lot := range []string{"a", "_", "9", "x", long} {
			m := of(kind)
			m.Lot = lot
			wantOne(t, m, api.OK)
		}
	}
}

// wrong is a change of a movement that leads to an error.
type wrong struct {
	e      api.Errno
	change func(m *api.Move)
}

// wrongs returns changes of a movement of this kind by the step at which One finds their errors. A change of a later step does not undo one of an earlier step.
func wrongs(kind int) (steps [][]wrong) {
	steps = make([][]wrong, 7)
	add := func(step int, e api.Errno, change func(m *api.Move)) {
		steps[step] = append(steps[step], wrong{e, change})
	}
	for _, n := range noDays {
		add(0, api.ErrDate, func(m *api.Move) { m.Value = n })
	}
	for _, s := range append([]string{""}, noCodes...) {
		add(1, api.ErrName, func(m *api.Move) { m.Item = s })
	}
	for _, n := range noKinds {
		add(2, api.ErrKind, func(m *api.Move) { m.Kind = n })
	}
	for _, n := range wrongQtys(kind) {
		add(3, api.ErrRange, func(m *api.Move) { m.Qty = n })
	}
	for _, n := range wrongCosts(kind) {
		add(4, api.ErrRange, func(m *api.Move) { m.Cost = n })
	}
	for _, s := range wrongLots(kind) {
		add(5, api.ErrItem, func(m *api.Move) { m.Lot = s })
	}
	for _, n := range wrongRefs(kind) {
		add(6, api.ErrRef, func(m *api.Move) { m.Ref = n })
	}
	return steps
}

func wrongQtys(kind int) []int {
	if kind == api.Landed || kind == api.Reprice {
		return []int{1, -1, 5, qtyLimit, most, least}
	}
	return []int{0, -1, -qtyLimit, qtyLimit + 1, most, least}
}

func wrongCosts(kind int) []int {
	switch kind {
	case api.Issue, api.Back:
		return []int{1, -1, 5, costLimit, costLimit + 1, most, least}
	case api.Landed:
		return []int{0, -1, -costLimit, costLimit + 1, most, least}
	}
	return []int{-1, -costLimit, costLimit + 1, most, least}
}

func wrongLots(kind int) []string {
	if kind == api.Receipt || kind == api.Issue {
		return noCodes
	}
	return append([]string{"a", "x", strings.Repeat("z", 12)}, noCodes...)
}

func wrongRefs(kind int) []int {
	switch kind {
	case api.Back, api.Send, api.Landed:
		return []int{0, -1, -5, least}
	}
	return []int{1, -1, 5, most, least}
}

// P33.1, P33.3: each error of a movement by itself, and its place before those that follow it.
func TestOneErrors(t *testing.T) {
	for _, kind := range kinds {
		steps := wrongs(kind)
		for i, step := range steps {
			for _, w := range step {
				m := of(kind)
				w.change(&m)
				wantOne(t, m, w.e)
				m.Seq = 2
				l := []api.Move{numbered(receipt(10, 5, 50))[0], m, {}}
				wantCheck(t, l, 1, w.e)
				wantNoLanded(t, l, []int{9}, 0, false, -1, w.e)
				for _, later := range slices.Concat(steps[i+1:]...) {
					m := of(kind)
					later.change(&m)
					w.change(&m)
					wantOne(t, m, w.e)
				}
			}
		}
	}
}

// P33.1: the number of movements.
func TestCheckNumber(t *testing.T) {
	wantCheck(t, nil, -1, api.OK)
	wantCheck(t, []api.Move{}, -1, api.OK)
	wantCheck(t, repeated(1), -1, api.OK)
	wantCheck(t, repeated(api.MaxMoves), -1, api.OK)
	wantCheck(t, repeated(api.MaxMoves+1), 0, api.ErrMany)
	wantCheck(t, make([]api.Move, api.MaxMoves), 0, api.ErrOrder)
	wantCheck(t, make([]api.Move, api.MaxMoves+1), 0, api.ErrMany)
}

// P33.1: the first movement with an error, whatever follows.
func TestCheckIndex(t *testing.T) {
	for _, at := range []int{0, 1, 5, 1998, 1999} {
		l := repeated(api.MaxMoves)
		for i := at; i < len(l); i++ {
			l[i].Kind = 9
		}
		wantCheck(t, l, at, api.ErrKind)
		for _, seq := range []int{0, -1, at, at + 2, most, least} {
			l[at].Seq = seq
			wantCheck(t, l, at, api.ErrOrder)
		}
		l[at].Seq, l[at].Kind, l[at].Ref = at+1, api.Send, at+1
		wantCheck(t, l, at, api.ErrRef)
	}
	// A wrong number comes before all other errors.
	wantCheck(t, []api.Move{{}}, 0, api.ErrOrder)
	wantCheck(t, []api.Move{{Seq: 1}}, 0, api.ErrName)
	wantCheck(t, []api.Move{{Seq: 1, Value: -1}}, 0, api.ErrDate)
}

// P33.1: references to other movements.
func TestReferences(t *testing.T) {
	first := []api.Move{receipt(10, 5, 50), issue(10, 4), back(10, 1, 2), send(10, 1, 1), landed(10, 1, 1), {Value: 10, Item: "x", Kind: api.Reprice}}
	wantCheck(t, numbered(slices.Clone(first)...), -1, api.OK)
	right := map[int]int{api.Back: 2, api.Send: 1, api.Landed: 1}
	for _, kind := range []int{api.Back, api.Send, api.Landed} {
		want := func(ref, value int, item string, e api.Errno) {
			t.Helper()
			m := of(kind)
			m.Ref, m.Value, m.Item = ref, value, item
			if kind != api.Landed {
				m.Qty = 1
			}
			at := -1
			if e != api.OK {
				at = 6
			}
			wantCheck(t, numbered(append(slices.Clone(first), m)...), at, e)
			if e != api.OK {
				// The last movement could be followed by anything.
				wantCheck(t, append(numbered(append(slices.Clone(first), m)...), api.Move{}), at, e)
			}
		}
		for _, ref := range []int{1, 2, 3, 4, 5, 6, 7, 8, 1000, api.MaxMoves, most} {
			for _, value := range []int{0, 9, 10, 11, api.MaxDay} {
				e := api.ErrRef
				if ref == right[kind] {
					e = api.OK
					if value < 10 {
						e = api.ErrOrder
					}
				}
				want(ref, value, "x", e)
				want(ref, value, "y", api.ErrRef)
				want(ref, value, "X", api.ErrRef)
			}
		}
	}
}

// P33.1: a movement cannot refer to one that is entered later, even if this exists.
func TestLaterReferences(t *testing.T) {
	wantCheck(t, numbered(receipt(10, 5, 50), back(10, 1, 3), issue(10, 1)), 1, api.ErrRef)
	wantCheck(t, numbered(send(10, 1, 2), receipt(10, 5, 50)), 0, api.ErrRef)
	wantCheck(t, numbered(landed(10, 1, 1), receipt(10, 5, 50)), 0, api.ErrRef)
	wantCheck(t, numbered(issue(10, 5), back(11, 1, 2)), 1, api.ErrRef)
	// Issues do not need a stock, and may have an earlier day than what is entered before them.
	wantCheck(t, numbered(issue(10, 5), issue(9, qtyLimit), back(9, qtyLimit, 2), back(11, 5, 1)), -1, api.OK)
}

// P33.1: the sums of what is returned.
func TestReturns(t *testing.T) {
	base := func(more ...api.Move) []api.Move {
		return numbered(append([]api.Move{receipt(10, 5, 50), issue(10, 4), receipt(10, 5, 50), issue(10, 4)}, more...)...)
	}
	for _, c := range []struct {
		more []api.Move
		at   int
		e    api.Errno
	}{
		{[]api.Move{back(10, 4, 2), back(10, 4, 4), send(10, 5, 1), send(10, 5, 3)}, -1, api.OK},
		{[]api.Move{back(10, 5, 2)}, 4, api.ErrQty},
		{[]api.Move{send(10, 6, 1)}, 4, api.ErrQty},
		{[]api.Move{send(10, qtyLimit, 1)}, 4, api.ErrQty},
		{[]api.Move{back(10, 1, 2), back(10, 1, 2), back(10, 1, 2), back(10, 1, 2)}, -1, api.OK},
		{[]api.Move{back(10, 1, 2), back(10, 1, 2), back(10, 1, 2), back(10, 1, 2), back(10, 1, 2)}, 8, api.ErrQty},
		{[]api.Move{back(12, 3, 2), back(11, 1, 4), back(10, 2, 2), back(10, 9, 4)}, 6, api.ErrQty},
		{[]api.Move{send(10, 3, 1), landed(10, 9, 1), landed(10, costLimit, 1), send(10, 2, 1), landed(10, 9, 1), landed(10, 9, 3), send(10, 1, 1)}, 10, api.ErrQty},
		{[]api.Move{send(10, 3, 1), send(10, 3, 3), send(10, 2, 1), send(10, 2, 3), send(10, 1, 3)}, 8, api.ErrQty},
		// The errors that come before it.
		{[]api.Move{back(9, 5, 2)}, 4, api.ErrOrder},
		{[]api.Move{back(9, 5, 1)}, 4, api.ErrRef},
		{[]api.Move{send(9, 6, 2)}, 4, api.ErrRef},
	} {
		wantCheck(t, base(c.more...), c.at, c.e)
	}
	l := numbered(receipt(10, qtyLimit, 0), issue(10, qtyLimit), send(10, qtyLimit, 1), back(10, qtyLimit, 2))
	wantCheck(t, l, -1, api.OK)
	wantCheck(t, numbered(append(l, send(10, 1, 1))...), 4, api.ErrQty)
	wantCheck(t, numbered(append(l, back(10, qtyLimit, 2))...), 4, api.ErrQty)
}

// modelError returns the error of the last movement of a list, looking for each condition separately.
func modelError(l []api.Move) api.Errno {
	n := len(l)
	m := l[n-1]
	if m.Seq != n {
		return api.ErrOrder
	}
	if e := moves.One(m); e != api.OK {
		return e
	}
	wanted := map[int]int{api.Back: api.Issue, api.Send: api.Receipt, api.Landed: api.Receipt}[m.Kind]
	if wanted == 0 {
		return api.OK
	}
	if m.Ref >= m.Seq {
		return api.ErrRef
	}
	var of api.Move
	sum := new(big.Int)
	for _, x := range l {
		if x.Seq == m.Ref {
			of = x
		}
		if x.Kind == m.Kind && x.Ref == m.Ref {
			sum.Add(sum, big.NewInt(int64(x.Qty)))
		}
	}
	switch {
	case of.Item != m.Item || of.Kind != wanted:
		return api.ErrRef
	case of.Value > m.Value:
		return api.ErrOrder
	case m.Kind != api.Landed && sum.Cmp(big.NewInt(int64(of.Qty))) > 0:
		return api.ErrQty
	}
	return api.OK
}

// random returns the movement that is entered after n others. It often has an error.
func random(r *rand.Rand, n int) api.Move {
	m := of(kinds[r.Intn(len(kinds))])
	m.Seq, m.Value, m.Item = n+1, r.Intn(8), []string{"x", "x", "x", "y"}[r.Intn(4)]
	if m.Qty > 0 {
		m.Qty = 1 + r.Intn([]int{3, 20}[r.Intn(2)])
	}
	if m.Kind == api.Receipt || m.Kind == api.Send || m.Kind == api.Reprice {
		m.Cost = r.Intn(50)
	}
	if m.Ref > 0 {
		m.Ref = 1 + r.Intn(n+1)
	}
	if r.Intn(30) == 0 {
		steps := wrongs(m.Kind)
		l := slices.Concat(steps...)
		l[r.Intn(len(l))].change(&m)
	}
	if r.Intn(100) == 0 {
		m.Seq += r.Intn(3) - 1
	}
	return m
}

// history returns movements without errors.
func history(r *rand.Rand, n int) (l []api.Move) {
	for len(l) < n {
		m := append(l, random(r, len(l)))
		if modelError(m) == api.OK {
			l = m
		}
	}
	return l
}

// P33.1: random movements, compared with the model.
func TestRandomChecks(t *testing.T) {
	r := rand.New(rand.NewSource(33))
	seen := map[api.Errno]int{}
	for range 400 {
		var l []api.Move
		for len(l) < 60 {
			next := append(slices.Clip(l), random(r, len(l)))
			e := modelError(next)
			seen[e]++
			if e != api.OK {
				wantCheck(t, next, len(l), e)
				wantCheck(t, append(next, api.Move{}), len(l), e)
				continue
			}
			wantCheck(t, next, -1, api.OK)
			l = next
		}
	}
	for _, e := range []api.Errno{api.OK, api.ErrDate, api.ErrName, api.ErrKind, api.ErrRange, api.ErrItem, api.ErrRef, api.ErrOrder, api.ErrQty} {
		if seen[e] < 20 {
			t.Errorf("the error %d occurred %d times", e, seen[e])
		}
	}
}

// inValueOrder returns the movements in value order, taking the first of the least ones each time.
func inValueOrder(l []api.Move) (o []api.Move) {
	rest := slices.Clone(l)
	for len(rest) > 0 {
		at := 0
		for i, m := range rest {
			if m.Value < rest[at].Value || m.Value == rest[at].Value && m.Seq < rest[at].Seq {
				at = i
			}
		}
		o = append(o, rest[at])
		rest = slices.Delete(rest, at, at+1)
	}
	return o
}

// P33.2, P33.4: movements that agree in Value and Seq keep their order; Order takes any others, too.
func TestOrder(t *testing.T) {
	if o := moves.Order(nil); len(o) != 0 {
		t.Errorf("Order(nil) = %v", o)
	}
	r := rand.New(rand.NewSource(34))
	numbers := []int{0, 1, 2, 3, -1, most, least, api.MaxDay + 1}
	for n := range 120 {
		for range 20 {
			l := make([]api.Move, n)
			for i := range l {
				// Cost tells apart the movements that agree in all else.
				l[i] = api.Move{Value: numbers[r.Intn(1+r.Intn(8))], Seq: numbers[r.Intn(1+r.Intn(8))], Kind: r.Intn(9), Cost: i}
			}
			given := slices.Clone(l)
			if o, wanted := moves.Order(l), inValueOrder(l); !slices.Equal(o, wanted) {
				t.Fatalf("Order(%v) = %v, want %v", l, o, wanted)
			}
			if !slices.Equal(l, given) {
				t.Fatalf("Order changed %v to %v", given, l)
			}
		}
	}
}

// P33.4
func TestOrderOfShuffled(t *testing.T) {
	r := rand.New(rand.NewSource(35))
	for range 300 {
		l := history(r, 1+r.Intn(60))
		wanted := moves.Order(l)
		if !slices.Equal(wanted, inValueOrder(l)) {
			t.Fatalf("Order(%v) = %v", l, wanted)
		}
		shuffled := slices.Clone(l)
		r.Shuffle(len(l), func(i, j int) { shuffled[i], shuffled[j] = shuffled[j], shuffled[i] })
		if o := moves.Order(shuffled); !slices.Equal(o, wanted) {
			t.Fatalf("Order(%v) = %v, want %v", shuffled, o, wanted)
		}
		bySeq := func(a, b api.Move) int { return a.Seq - b.Seq }
		if !slices.Equal(slices.SortedFunc(slices.Values(wanted), bySeq), l) {
			t.Fatalf("%v is no permutation of %v", wanted, l)
		}
	}
}

// P33.2
func TestLevels(t *testing.T) {
	wantLevels(t, nil)
	wantLevels(t, []api.Move{})
	wantLevels(t, []api.Move{receipt(10, 5, 1), issue(9, 5), back(8, 5, 0), send(7, 4, 9), issue(1, 1)}, 5, 0, 5, 1, 0)
	wantLevels(t, []api.Move{receipt(0, qtyLimit, 0), issue(0, qtyLimit), back(0, qtyLimit, 0), send(0, qtyLimit, 0)}, qtyLimit, 0, qtyLimit, 0)
	wantLevels(t, []api.Move{back(0, qtyLimit-1, 0), receipt(0, 1, 0), landed(0, 1, 0)}, qtyLimit-1, qtyLimit, qtyLimit)
	wantNoLevels(t, []api.Move{issue(10, 1), receipt(10, 5, 1)}, 0, api.ErrQty)
	wantNoLevels(t, []api.Move{receipt(10, 5, 1), issue(10, 3), send(10, 3, 1), receipt(10, 5, 1)}, 2, api.ErrQty)
	wantNoLevels(t, []api.Move{receipt(10, 5, 1), send(10, 6, 1)}, 1, api.ErrQty)
	wantNoLevels(t, []api.Move{receipt(10, qtyLimit, 1), back(10, 1, 1), issue(10, 1)}, 1, api.ErrOver)
	wantNoLevels(t, []api.Move{receipt(10, qtyLimit, 1), issue(10, 1), receipt(10, 2, 1), issue(10, qtyLimit)}, 2, api.ErrOver)
	// Items, days and numbers do not matter.
	l := []api.Move{receipt(10, 5, 1), issue(9, 5), {Kind: api.Receipt, Qty: 7, Item: "y", Seq: -1, Value: least, Cost: -9, Lot: "a b", Ref: 3}}
	wantLevels(t, l, 5, 0, 7)
}

// P33.2: what counts as 0.
func TestLevelsWithoutQuantity(t *testing.T) {
	for _, kind := range []int{api.Landed, api.Reprice, 0, -1, 7, most, least} {
		for _, qty := range []int{0, 1, -1, 5, qtyLimit, qtyLimit + 1, most, least} {
			wantLevels(t, []api.Move{{Kind: kind, Qty: qty}, receipt(0, 5, 0), {Kind: kind, Qty: qty}, issue(0, 5), {Kind: kind, Qty: qty}}, 0, 5, 5, 0, 0)
		}
	}
	for _, kind := range []int{api.Receipt, api.Issue, api.Back, api.Send} {
		for _, qty := range []int{0, -1, -5, -qtyLimit, qtyLimit + 1, most, least} {
			wantLevels(t, []api.Move{{Kind: kind, Qty: qty}, receipt(0, 5, 0), {Kind: kind, Qty: qty}, issue(0, 5), {Kind: kind, Qty: qty}}, 0, 5, 5, 0, 0)
		}
	}
}

// P33.3: the receipts have the order of refs, and shares of 0 no movement and no number.
func TestLanded(t *testing.T) {
	l := numbered(receipt(10, 1, 100), issue(9, 1), receipt(12, 2, 0), receipt(11, 3, 100), api.Move{Value: 3, Item: "y", Kind: api.Receipt, Qty: 4, Cost: 300, Lot: "a"})
	made := func(seq int, item string, cost, ref int) api.Move {
		return api.Move{Seq: seq, Value: 12, Item: item, Kind: api.Landed, Cost: cost, Ref: ref}
	}
	wantLanded(t, l, []int{5, 1, 4, 3}, 10, false, 12, made(6, "y", 4, 5), made(7, "x", 1, 1), made(8, "x", 3, 4), made(9, "x", 2, 3))
	wantLanded(t, l, []int{3, 5, 1, 4}, 10, true, 12, made(6, "y", 6, 5), made(7, "x", 2, 1), made(8, "x", 2, 4))
	wantLanded(t, l, []int{1, 3}, 1, false, 12, made(6, "x", 1, 3))
	wantLanded(t, l, []int{3, 1}, 7, true, 12, made(6, "x", 7, 1))
	wantLanded(t, l, []int{4}, costLimit, false, 12, made(6, "x", costLimit, 4))
	wantLanded(t, l, []int{1, 4}, 2*costLimit, true, 12, made(6, "x", costLimit, 1), made(7, "x", costLimit, 4))
	wantLanded(t, l, []int{5}, 9, true, 3, api.Move{Seq: 6, Value: 3, Item: "y", Kind: api.Landed, Cost: 9, Ref: 5})
	wantLanded(t, l, []int{5}, 9, true, api.MaxDay, api.Move{Seq: 6, Value: api.MaxDay, Item: "y", Kind: api.Landed, Cost: 9, Ref: 5})
}

// P33.3: many receipts, and numbers beyond the limit of movements.
func TestLandedForMany(t *testing.T) {
	l := repeated(api.MaxMoves)
	var refs []int
	var wanted []api.Move
	for i := range 200 {
		refs = append(refs, api.MaxMoves-i)
		wanted = append(wanted, api.Move{Seq: api.MaxMoves + 1 + i, Value: 10, Item: "x", Kind: api.Landed, Cost: 2, Ref: api.MaxMoves - i})
	}
	for _, byCost := range []bool{false, true} {
		wantLanded(t, l, refs, 400, byCost, 10, wanted...)
		wantNoLanded(t, l, append(slices.Clip(refs), 1), 400, byCost, 10, api.ErrMany)
		wantNoLanded(t, l, append(slices.Clip(refs), 1), api.MaxSum+1, byCost, 10, api.ErrMany)
		wantNoLanded(t, l, append(slices.Clip(refs), refs[7]), 400, byCost, 10, api.ErrTwice)
		wantNoLanded(t, l, append(slices.Clip(refs), 0), 400, byCost, 10, api.ErrRef)
	}
}

// P33.3: the errors, in their order.
func TestLandedErrors(t *testing.T) {
	l := numbered(receipt(10, 1, 0), issue(9, 1), receipt(12, 2, 0), back(12, 1, 2))
	for _, refs := range [][]int{nil, {1}, {1, 3}, {0}, {1, 1}, {3}} {
		for _, byCost := range []bool{false, true} {
			for _, amount := range []int{1, 0, -1, most, least} {
				for _, value := range append([]int{11, 12}, noDays...) {
					wantNoLanded(t, []api.Move{{}}, refs, amount, byCost, value, api.ErrOrder)
					wantNoLanded(t, make([]api.Move, api.MaxMoves+1), refs, amount, byCost, value, api.ErrMany)
				}
				for _, value := range noDays {
					wantNoLanded(t, l, refs, amount, byCost, value, api.ErrDate)
				}
			}
			for _, amount := range []int{0, -1, -5, -api.MaxSum, least} {
				wantNoLanded(t, l, refs, amount, byCost, 11, api.ErrArg)
			}
		}
	}
	for _, amount := range []int{1, api.MaxSum, api.MaxSum + 1, most} {
		for _, byCost := range []bool{false, true} {
			for _, ref := range []int{0, -1, 2, 4, 5, 6, api.MaxMoves, most, least} {
				wantNoLanded(t, l, []int{ref}, amount, byCost, 12, api.ErrRef)
				wantNoLanded(t, l, []int{1, ref, 1, 3}, amount, byCost, 11, api.ErrRef)
				wantNoLanded(t, l, []int{1, 3, ref}, amount, byCost, 12, api.ErrRef)
			}
			wantNoLanded(t, l, []int{1, 1, 0}, amount, byCost, 12, api.ErrTwice)
			wantNoLanded(t, l, []int{1, 3, 1, 2}, amount, byCost, 12, api.ErrTwice)
			wantNoLanded(t, l, []int{1, 3, 3, 2}, amount, byCost, 11, api.ErrOrder)
			wantNoLanded(t, l, []int{3, 1, 1, 2}, amount, byCost, 11, api.ErrOrder)
			wantNoLanded(t, l, []int{1}, amount, byCost, 9, api.ErrOrder)
		}
	}
	// The errors of Shares: the amount, then a sum of weights that is 0.
	for _, amount := range []int{api.MaxSum + 1, most} {
		wantNoLanded(t, l, nil, amount, false, 12, api.ErrOver)
		wantNoLanded(t, l, []int{1, 3}, amount, true, 12, api.ErrOver)
		wantNoLanded(t, l, []int{1, 3}, amount, false, 12, api.ErrOver)
	}
	for _, amount := range []int{1, costLimit, costLimit + 1, api.MaxSum} {
		wantNoLanded(t, l, nil, amount, false, 12, api.ErrArg)
		wantNoLanded(t, l, nil, amount, true, 12, api.ErrArg)
		wantNoLanded(t, nil, nil, amount, true, 12, api.ErrArg)
		wantNoLanded(t, l, []int{1, 3}, amount, true, 12, api.ErrArg)
	}
	// Shares that are too large, at any place.
	wantNoLanded(t, l, []int{1}, costLimit+1, false, 12, api.ErrOver)
	wantNoLanded(t, l, []int{1}, api.MaxSum, false, 12, api.ErrOver)
	wantNoLanded(t, l, []int{1, 3}, 2*costLimit, false, 12, api.ErrOver)
	wantNoLanded(t, l, []int{3, 1}, 2*costLimit, false, 12, api.ErrOver)
}

// P33.3, P6: random receipts; what is allocated adds up to the amount, and can be entered.
func TestRandomLanded(t *testing.T) {
	r := rand.New(rand.NewSource(36))
	for range 2000 {
		l := history(r, 1+r.Intn(30))
		var refs, weights []int
		byCost := r.Intn(2) == 0
		total := 0
		for _, i := range r.Perm(len(l)) {
			if l[i].Kind == api.Receipt && r.Intn(3) > 0 {
				refs = append(refs, l[i].Seq)
				weights = append(weights, map[bool]int{false: l[i].Qty, true: l[i].Cost}[byCost])
				total += weights[len(weights)-1]
			}
		}
		amount := 1 + r.Intn([]int{5, 1000, costLimit}[r.Intn(3)])
		if total == 0 {
			wantNoLanded(t, l, refs, amount, byCost, 8, api.ErrArg)
			continue
		}
		shares, _ := split.Shares(amount, weights...)
		var wanted []api.Move
		for i, share := range shares {
			if share > 0 {
				wanted = append(wanted, api.Move{Seq: len(l) + 1 + len(wanted), Value: 8, Item: l[refs[i]-1].Item, Kind: api.Landed, Cost: share, Ref: refs[i]})
				amount -= share
			}
		}
		if amount != 0 {
			t.Fatalf("%d are left", amount)
		}
		wantLanded(t, l, refs, sum(shares), byCost, 8, wanted...)
		wantCheck(t, append(l, wanted...), -1, api.OK)
	}
}

// sum returns the sum of l.
func sum(l []int) (n int) {
	for _, x := range l {
		n += x
	}
	return n
}

// P33.1, P33.2, P33.3: the arguments stay as they are, with what lies behind them in memory, and results are new.
func TestMemory(t *testing.T) {
	all := append(example(), api.Move{Seq: -1}, api.Move{Seq: -2})
	numbers := []int{2, 1, -3, -4}
	kept, keptNumbers := slices.Clone(all), slices.Clone(numbers)
	for n := range 5 {
		l, refs := all[:n], numbers[:min(n, 2)]
		moves.Check(l)
		first, second := moves.Order(l), moves.Order(l)
		for i := range first {
			first[i] = api.Move{Seq: 99}
		}
		_ = append(first, api.Move{Seq: 98})
		if !slices.Equal(second, inValueOrder(kept[:n])) {
			t.Errorf("the results of Order share memory: %v", second)
		}
		qtys, _, _ := moves.Levels(second)
		again, _, _ := moves.Levels(second)
		for i := range qtys {
			qtys[i]++
			if qtys[i] == again[i] {
				t.Errorf("the results of Levels share memory: %v", again)
			}
		}
		if m, e := moves.Landed(l, refs, 7, false, 10); e == api.OK {
			m[0] = api.Move{}
		}
	}
	if !slices.Equal(all, kept) || !slices.Equal(numbers, keptNumbers) {
		t.Errorf("the arguments became %v, %v", all, numbers)
	}
}
