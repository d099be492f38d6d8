package sheet_test

import (
	"cmp"
	"math"
	"math/big"
	"math/rand"
	"slices"
	"testing"

	"accounting/api"
	"accounting/sheet"
)

const most, least = math.MaxInt, math.MinInt

// limit is the greatest absolute value of a cell of a sheet.
const limit = api.MaxSum

// cell returns a cell of the entity a in EUR.
func cell(account string, amount, base int) api.Cell {
	return api.Cell{Key: api.Key{Entity: "a", Account: account, Cur: "EUR"}, Amount: amount, Base: base}
}

// fields returns pointers to the fields of a key, in their order.
func fields(k *api.Key) []*string {
	return []*string{&k.Entity, &k.Account, &k.Cur, &k.Partner, &k.Tags}
}

// randomKey returns one of a few keys, with texts that need not be codes.
func randomKey(r *rand.Rand) (k api.Key) {
	for _, f := range fields(&k) {
		*f = []string{"", "a", "a", "ab", "b", "B", "\xff"}[r.Intn(7)]
		if r.Intn(3) > 0 {
			*f = "a"
		}
	}
	return k
}

// randomCells returns cells with any values, and keys that repeat.
func randomCells(r *rand.Rand) []api.Cell {
	values := []int{0, 0, 1, -1, 2, limit, -limit, limit - 1, limit + 1, -limit - 1, most, -most, least}
	value := func() int {
		if r.Intn(2) == 0 {
			return r.Intn(5) - 2
		}
		return values[r.Intn(len(values))]
	}
	l := make([]api.Cell, r.Intn(10))
	for i := range l {
		l[i] = api.Cell{Key: randomKey(r), Amount: value(), Base: value()}
		if i > 0 && r.Intn(3) == 0 {
			l[i] = l[r.Intn(i)]
			l[i].Amount, l[i].Base = -l[i].Amount, -l[i].Base
		}
	}
	return l
}

// randomSheet returns a sheet with small values, or ones at the limit.
func randomSheet(r *rand.Rand) []api.Cell {
	l := make([]api.Cell, r.Intn(10))
	for i := range l {
		l[i] = api.Cell{Key: randomKey(r), Amount: r.Intn(5) - 2, Base: r.Intn(5) - 2}
		if r.Intn(8) == 0 {
			l[i].Amount = limit * (r.Intn(3) - 1)
		}
		if r.Intn(8) == 0 {
			l[i].Base = limit * (r.Intn(3) - 1)
		}
	}
	slices.SortFunc(l, func(a, b api.Cell) int { return compare(a.Key, b.Key) })
	l = slices.CompactFunc(l, func(a, b api.Cell) bool { return a.Key == b.Key })
	return slices.DeleteFunc(l, func(c api.Cell) bool { return c.Amount == 0 && c.Base == 0 })
}

// compare returns what Cmp returns.
func compare(a, b api.Key) int {
	return cmp.Or(cmp.Compare(a.Entity, b.Entity), cmp.Compare(a.Account, b.Account), cmp.Compare(a.Cur, b.Cur), cmp.Compare(a.Partner, b.Partner), cmp.Compare(a.Tags, b.Tags))
}

// right returns what Right returns.
func right(l []api.Cell) bool {
	for i, c := range l {
		if i > 0 && compare(l[i-1].Key, c.Key) != -1 {
			return false
		}
		if c.Amount == 0 && c.Base == 0 || max(c.Amount, c.Base) > limit || min(c.Amount, c.Base) < -limit {
			return false
		}
	}
	return true
}

// of returns what Of returns for the cells of l, and of m with negated values.
func of(l, m []api.Cell) (s []api.Cell, e api.Errno) {
	sums := map[api.Key]*[2]big.Int{}
	add := func(c api.Cell, sign int64) {
		if sums[c.Key] == nil {
			sums[c.Key] = &[2]big.Int{}
		}
		for i, n := range []int{c.Amount, c.Base} {
			x := big.NewInt(int64(n))
			sums[c.Key][i].Add(&sums[c.Key][i], x.Mul(x, big.NewInt(sign)))
		}
	}
	for _, c := range l {
		add(c, 1)
	}
	for _, c := range m {
		add(c, -1)
	}
	for k, x := range sums {
		if x[0].CmpAbs(big.NewInt(limit)) > 0 || x[1].CmpAbs(big.NewInt(limit)) > 0 {
			return nil, api.ErrOver
		}
		if x[0].Sign() != 0 || x[1].Sign() != 0 {
			s = append(s, api.Cell{Key: k, Amount: int(x[0].Int64()), Base: int(x[1].Int64())})
		}
	}
	slices.SortFunc(s, func(a, b api.Cell) int { return compare(a.Key, b.Key) })
	return s, api.OK
}

// P19.1
func TestCmp(t *testing.T) {
	// Each key is less than all that follow.
	l := []api.Key{
		{}, {Tags: "a"}, {Partner: "a"}, {Partner: "a", Tags: "a"}, {Partner: "b"}, {Cur: "a"}, {Cur: "a", Tags: "\x00"}, {Cur: "b"}, {Account: "10"}, {Account: "10", Cur: "z", Partner: "z", Tags: "z"}, {Account: "100"}, {Account: "2"}, {Account: "A"}, {Account: "a"}, {Account: "a\x00"}, {Account: "ab"}, {Account: "~"}, {Account: "\x80"}, {Account: "\xff"},
		{Entity: "A"}, {Entity: "a"}, {Entity: "a", Tags: "z"}, {Entity: "a", Account: "1"}, {Entity: "a", Account: "b"}, {Entity: "ab"}, {Entity: "ä"},
	}
	for i, a := range l {
		for j, b := range l {
			if sign := sheet.Cmp(a, b); sign != cmp.Compare(i, j) {
				t.Errorf("Cmp(%q, %q) = %d", a, b, sign)
			}
		}
	}
	r := rand.New(rand.NewSource(191))
	for range 20000 {
		a, b := randomKey(r), randomKey(r)
		if sign := sheet.Cmp(a, b); sign != compare(a, b) {
			t.Fatalf("Cmp(%q, %q) = %d", a, b, sign)
		}
	}
}

// P19.1
func TestRight(t *testing.T) {
	for i, c := range []struct {
		l  []api.Cell
		ok bool
	}{
		{nil, true}, {[]api.Cell{}, true}, {[]api.Cell{cell("1", 1, 0)}, true}, {[]api.Cell{cell("1", 0, 1)}, true}, {[]api.Cell{{Amount: -1}}, true}, {[]api.Cell{cell("1", limit, -limit), cell("2", -limit, limit)}, true},
		{[]api.Cell{cell("1", 0, 0)}, false}, {[]api.Cell{cell("1", 1, 1), cell("2", 0, 0)}, false}, {[]api.Cell{cell("1", 0, 0), cell("2", 1, 1)}, false},
		{[]api.Cell{cell("1", 1, 0), cell("1", 1, 0)}, false}, {[]api.Cell{cell("2", 1, 0), cell("1", 1, 0)}, false}, {[]api.Cell{cell("1", 1, 0), cell("3", 1, 0), cell("2", 1, 0)}, false}, {[]api.Cell{{Key: api.Key{Tags: "b"}, Base: 1}, {Key: api.Key{Tags: "a"}, Base: 1}}, false},
		{[]api.Cell{cell("1", limit+1, 0)}, false}, {[]api.Cell{cell("1", -limit-1, 0)}, false}, {[]api.Cell{cell("1", 0, limit+1)}, false}, {[]api.Cell{cell("1", 1, -limit-1)}, false}, {[]api.Cell{cell("1", least, 0)}, false}, {[]api.Cell{cell("1", 0, least)}, false}, {[]api.Cell{cell("1", most, most)}, false}, {[]api.Cell{cell("1", 1, 1), cell("2", limit+1, 0)}, false},
	} {
		if ok := sheet.Right(c.l); ok != c.ok {
			t.Errorf("case %d: Right(%v) is %v", i, c.l, ok)
		}
	}
	r := rand.New(rand.NewSource(192))
	counts := map[bool]int{}
	for i := range 20000 {
		l := randomCells(r)
		if i%2 == 0 {
			l = randomSheet(r)
		}
		if len(l) > 1 && r.Intn(4) == 0 {
			i, j := r.Intn(len(l)), r.Intn(len(l))
			l[i], l[j] = l[j], l[i]
		}
		if ok := sheet.Right(l); ok != right(l) {
			t.Fatalf("Right(%v) is %v", l, ok)
		}
		counts[right(l) && len(l) > 1]++
	}
	if counts[true] < 2000 || counts[false] < 2000 {
		t.Errorf("%v", counts)
	}
}

// P19.1, P19.4, P19.5: the chapter's example.
func TestExample(t *testing.T) {
	s, e := sheet.Of(cell("20", -5, -5), cell("10", 7, 7), cell("20", 2, 2), cell("30", 1, 1), cell("30", -1, -1))
	if !slices.Equal(s, []api.Cell{cell("10", 7, 7), cell("20", -3, -3)}) || e != api.OK {
		t.Fatalf("Of = %v, %d", s, e)
	}
	if n, e := sheet.Base(s); n != 4 || e != api.OK {
		t.Errorf("Base = %d, %d", n, e)
	}
	if l, e := sheet.Fold(s, api.ByEntity); !slices.Equal(l, []api.Cell{{Key: api.Key{Entity: "a"}, Amount: 4, Base: 4}}) || e != api.OK {
		t.Errorf("Fold = %v, %d", l, e)
	}
}

// P19.1: limits, and sums whose parts are beyond them.
func TestOf(t *testing.T) {
	for i, c := range []struct {
		l, s []api.Cell
		e    api.Errno
	}{
		{nil, nil, api.OK}, {[]api.Cell{cell("1", 0, 0)}, nil, api.OK}, {[]api.Cell{{Amount: 1}}, []api.Cell{{Amount: 1}}, api.OK},
		{[]api.Cell{cell("2", 1, 2), cell("1", 3, 4)}, []api.Cell{cell("1", 3, 4), cell("2", 1, 2)}, api.OK},
		{[]api.Cell{cell("1", 5, 0), cell("1", -5, 1)}, []api.Cell{cell("1", 0, 1)}, api.OK}, {[]api.Cell{cell("1", 5, 1), cell("1", 0, -1)}, []api.Cell{cell("1", 5, 0)}, api.OK}, {[]api.Cell{cell("1", 5, 1), cell("1", -5, -1)}, nil, api.OK},
		{[]api.Cell{cell("1", limit, -limit)}, []api.Cell{cell("1", limit, -limit)}, api.OK}, {[]api.Cell{cell("1", limit-1, 1-limit), cell("1", 1, -1)}, []api.Cell{cell("1", limit, -limit)}, api.OK},
		{[]api.Cell{cell("1", limit, 0), cell("1", 1, 0)}, nil, api.ErrOver}, {[]api.Cell{cell("1", -limit, 0), cell("1", -1, 0)}, nil, api.ErrOver}, {[]api.Cell{cell("1", 0, limit+1)}, nil, api.ErrOver}, {[]api.Cell{cell("1", 1, -limit-1)}, nil, api.ErrOver}, {[]api.Cell{cell("1", 1, 1), cell("2", limit+1, 0)}, nil, api.ErrOver}, {[]api.Cell{cell("2", 1, 1), cell("1", 0, least)}, nil, api.ErrOver},
		{[]api.Cell{cell("1", limit, limit), cell("2", limit, limit)}, []api.Cell{cell("1", limit, limit), cell("2", limit, limit)}, api.OK},
		// These sums wrap around to 0, or to what is less than the limit.
		{[]api.Cell{cell("1", least, 0), cell("1", least, 0)}, nil, api.ErrOver}, {[]api.Cell{cell("1", most, 0), cell("1", most, 0), cell("1", 7, 0)}, nil, api.ErrOver}, {[]api.Cell{cell("1", 0, most), cell("1", 0, most), cell("1", 0, 2)}, nil, api.ErrOver},
		// Partial sums do not matter.
		{[]api.Cell{cell("1", most, 0), cell("1", 2, 0), cell("1", least, 0)}, []api.Cell{cell("1", 1, 0)}, api.OK}, {[]api.Cell{cell("1", most, least), cell("1", most, least), cell("1", -most, most), cell("1", -most, most)}, []api.Cell{cell("1", 0, -2)}, api.OK}, {[]api.Cell{cell("1", limit+1, 0), cell("2", 1, 1), cell("1", -1, 0)}, []api.Cell{cell("1", limit, 0), cell("2", 1, 1)}, api.OK},
	} {
		if s, e := sheet.Of(c.l...); !slices.Equal(s, c.s) || e != c.e {
			t.Errorf("case %d: Of(%v) = %v, %d, want %v, %d", i, c.l, s, e, c.s, c.e)
		}
	}
	r := rand.New(rand.NewSource(193))
	counts := map[api.Errno]int{}
	for range 20000 {
		l := randomCells(r)
		given := slices.Clone(l)
		want, wantE := of(l, nil)
		s, e := sheet.Of(l...)
		if !slices.Equal(s, want) || e != wantE {
			t.Fatalf("Of(%v) = %v, %d, want %v, %d", l, s, e, want, wantE)
		}
		if e == api.OK && !sheet.Right(s) {
			t.Fatalf("Of(%v) = %v is not a sheet", l, s)
		}
		clear(s)
		if !slices.Equal(l, given) {
			t.Fatalf("Of changed %v to %v", given, l)
		}
		counts[e]++
	}
	if counts[api.OK] < 2000 || counts[api.ErrOver] < 2000 {
		t.Errorf("the errors are %v", counts)
	}
}

// P19.2
func TestAddSubNeg(t *testing.T) {
	r := rand.New(rand.NewSource(194))
	counts := map[api.Errno]int{}
	for range 20000 {
		a, b := randomSheet(r), randomSheet(r)
		if r.Intn(4) == 0 {
			b = append(slices.Clone(a), b...)
			slices.SortFunc(b, func(x, y api.Cell) int { return compare(x.Key, y.Key) })
			b = slices.CompactFunc(b, func(x, y api.Cell) bool { return x.Key == y.Key })
		}
		givenA, givenB := slices.Clone(a), slices.Clone(b)
		sum, sumE := of(append(slices.Clone(a), b...), nil)
		diff, diffE := of(a, b)
		neg, _ := of(nil, b)
		gotSum, gotSumE := sheet.Add(a, b)
		gotDiff, gotDiffE := sheet.Sub(a, b)
		gotNeg, gotNegE := sheet.Neg(b)
		if !slices.Equal(gotSum, sum) || gotSumE != sumE {
			t.Fatalf("Add(%v, %v) = %v, %d, want %v, %d", a, b, gotSum, gotSumE, sum, sumE)
		}
		if !slices.Equal(gotDiff, diff) || gotDiffE != diffE {
			t.Fatalf("Sub(%v, %v) = %v, %d, want %v, %d", a, b, gotDiff, gotDiffE, diff, diffE)
		}
		if !slices.Equal(gotNeg, neg) || gotNegE != api.OK {
			t.Fatalf("Neg(%v) = %v, %d, want %v", b, gotNeg, gotNegE, neg)
		}
		clear(gotSum)
		clear(gotDiff)
		clear(gotNeg)
		if !slices.Equal(a, givenA) || !slices.Equal(b, givenB) {
			t.Fatalf("the sheets %v and %v were changed to %v and %v", givenA, givenB, a, b)
		}
		counts[sumE]++
		counts[diffE]++
	}
	if counts[api.OK] < 5000 || counts[api.ErrOver] < 200 {
		t.Errorf("the errors are %v", counts)
	}
}

// P19.2
func TestAddSubAtTheLimits(t *testing.T) {
	one, full, back := []api.Cell{cell("1", 1, 0)}, []api.Cell{cell("1", limit, 0), cell("2", 0, -limit)}, []api.Cell{cell("1", -limit, 0), cell("2", 0, limit)}
	if s, e := sheet.Neg(full); !slices.Equal(s, back) || e != api.OK {
		t.Errorf("Neg = %v, %d", s, e)
	}
	if s, e := sheet.Add(full, back); len(s) != 0 || e != api.OK {
		t.Errorf("Add = %v, %d", s, e)
	}
	if s, e := sheet.Sub(full, full); len(s) != 0 || e != api.OK {
		t.Errorf("Sub = %v, %d", s, e)
	}
	if s, e := sheet.Add(full, one); len(s) != 0 || e != api.ErrOver {
		t.Errorf("Add = %v, %d, want ErrOver", s, e)
	}
	if s, e := sheet.Sub(back, one); len(s) != 0 || e != api.ErrOver {
		t.Errorf("Sub = %v, %d, want ErrOver", s, e)
	}
	if s, e := sheet.Sub(full, one); !slices.Equal(s, []api.Cell{cell("1", limit-1, 0), cell("2", 0, -limit)}) || e != api.OK {
		t.Errorf("Sub = %v, %d", s, e)
	}
	// The room behind a sheet belongs to its owner.
	room := []api.Cell{cell("1", 1, 1), cell("9", 9, 9)}
	if s, e := sheet.Add(room[:1], []api.Cell{cell("2", 2, 2)}); len(s) != 2 || e != api.OK || room[1] != cell("9", 9, 9) {
		t.Errorf("Add = %v, %d, and %v is behind the sheet", s, e, room[1])
	}
}

// wrongSheets are lists that are not sheets.
func wrongSheets() [][]api.Cell {
	return [][]api.Cell{{cell("1", 0, 0)}, {cell("2", 1, 1), cell("1", 1, 1)}, {cell("1", 1, 1), cell("1", -1, -1)}, {cell("1", limit+1, 0)}, {cell("1", 0, least)}}
}

// P19.2, P19.4: ErrArg comes before ErrOver.
func TestWrongSheets(t *testing.T) {
	full := []api.Cell{cell("1", limit, limit)}
	for _, l := range wrongSheets() {
		for i, f := range []func() ([]api.Cell, api.Errno){
			func() ([]api.Cell, api.Errno) { return sheet.Add(l, nil) }, func() ([]api.Cell, api.Errno) { return sheet.Add(full, l) }, func() ([]api.Cell, api.Errno) { return sheet.Sub(l, full) }, func() ([]api.Cell, api.Errno) { return sheet.Sub(nil, l) }, func() ([]api.Cell, api.Errno) { return sheet.Neg(l) }, func() ([]api.Cell, api.Errno) { return sheet.Add(l, l) }, func() ([]api.Cell, api.Errno) { return sheet.Sub(l, l) },
			func() ([]api.Cell, api.Errno) { return sheet.Fold(l, 31) }, func() ([]api.Cell, api.Errno) { return sheet.Fold(l, 0) }, func() ([]api.Cell, api.Errno) { return sheet.Fold(l, -1) },
		} {
			if s, e := f(); len(s) != 0 || e != api.ErrArg {
				t.Errorf("call %d for %v = %v, %d, want ErrArg", i, l, s, e)
			}
		}
	}
	for _, mask := range []int{-1, 32, 33, 63, 64, most, least, -32} {
		for _, l := range [][]api.Cell{nil, full, {cell("1", limit, 1), cell("2", limit, 1)}} {
			if s, e := sheet.Fold(l, mask); len(s) != 0 || e != api.ErrArg {
				t.Errorf("Fold(%v, %d) = %v, %d, want ErrArg", l, mask, s, e)
			}
		}
	}
}

// P19.3
func TestGet(t *testing.T) {
	l := []api.Cell{cell("2", 1, 2), cell("1", 0, 0), cell("1", 3, 4), cell("2", 5, 6), {Amount: most, Base: least}}
	for _, c := range []struct {
		k            api.Key
		amount, base int
	}{
		{cell("2", 0, 0).Key, 1, 2}, {cell("1", 0, 0).Key, 0, 0}, {api.Key{}, most, least}, {cell("3", 0, 0).Key, 0, 0}, {api.Key{Account: "2"}, 0, 0}, {api.Key{Entity: "a", Account: "2", Cur: "EUR", Tags: "x"}, 0, 0},
	} {
		if amount, base := sheet.Get(l, c.k); amount != c.amount || base != c.base {
			t.Errorf("Get(%v) = %d, %d, want %d, %d", c.k, amount, base, c.amount, c.base)
		}
	}
	if amount, base := sheet.Get(nil, api.Key{}); amount != 0 || base != 0 {
		t.Errorf("Get of nothing = %d, %d", amount, base)
	}
}

// P19.3
func TestMatch(t *testing.T) {
	k := api.Key{Entity: "a", Account: "10", Cur: "EUR", Partner: "b", Tags: "d=x"}
	if !sheet.Match(k, k) || !sheet.Match(api.Key{}, k) || !sheet.Match(api.Key{}, api.Key{}) || sheet.Match(k, api.Key{}) {
		t.Error("Match of equal and empty keys")
	}
	for i := range 5 {
		var pattern, other api.Key
		*fields(&pattern)[i] = *fields(&k)[i]
		other = k
		*fields(&other)[i] = ""
		if !sheet.Match(pattern, k) || sheet.Match(pattern, other) || !sheet.Match(other, k) || sheet.Match(k, other) {
			t.Errorf("Match of field %d", i)
		}
		*fields(&other)[i] = *fields(&k)[i] + "x"
		if sheet.Match(pattern, other) || sheet.Match(other, k) || sheet.Match(k, other) {
			t.Errorf("Match of a longer field %d", i)
		}
	}
	r := rand.New(rand.NewSource(195))
	for range 20000 {
		pattern, k := randomKey(r), randomKey(r)
		wanted := true
		for i, f := range fields(&pattern) {
			if r.Intn(2) == 0 {
				*f = ""
			}
			wanted = wanted && (*f == "" || *f == *fields(&k)[i])
		}
		if ok := sheet.Match(pattern, k); ok != wanted {
			t.Fatalf("Match(%q, %q) is %v", pattern, k, ok)
		}
	}
}

// P19.3
func TestPick(t *testing.T) {
	l := []api.Cell{cell("2", 1, 2), cell("1", 0, 0), cell("2", 5, 6), {Key: api.Key{Entity: "b", Account: "2"}, Amount: most, Base: least}, cell("2", 1, 2)}
	given := slices.Clone(l)
	for _, c := range []struct {
		pattern api.Key
		indices []int
	}{
		{api.Key{}, []int{0, 1, 2, 3, 4}}, {api.Key{Account: "2"}, []int{0, 2, 3, 4}}, {api.Key{Account: "2", Cur: "EUR"}, []int{0, 2, 4}}, {api.Key{Entity: "b"}, []int{3}}, {api.Key{Account: "1"}, []int{1}}, {api.Key{Tags: "x"}, nil},
	} {
		var wanted []api.Cell
		for _, i := range c.indices {
			wanted = append(wanted, l[i])
		}
		s := sheet.Pick(l, c.pattern)
		if !slices.Equal(s, wanted) {
			t.Errorf("Pick(%v) = %v, want %v", c.pattern, s, wanted)
		}
		clear(s)
		if !slices.Equal(l, given) {
			t.Fatalf("the result of Pick shares memory with %v", l)
		}
	}
	if s := sheet.Pick(nil, api.Key{}); len(s) != 0 {
		t.Errorf("Pick of nothing = %v", s)
	}
}

// P19.4: each bit keeps its own field.
func TestFoldFields(t *testing.T) {
	k := api.Key{Entity: "a", Account: "10", Cur: "EUR", Partner: "b", Tags: "d=x"}
	for mask := range 32 {
		wanted := k
		for i, bit := range []int{api.ByEntity, api.ByAccount, api.ByCur, api.ByPartner, api.ByTags} {
			if mask&bit == 0 {
				*fields(&wanted)[i] = ""
			}
		}
		if s, e := sheet.Fold([]api.Cell{{Key: k, Amount: 1, Base: 2}}, mask); !slices.Equal(s, []api.Cell{{Key: wanted, Amount: 1, Base: 2}}) || e != api.OK {
			t.Errorf("Fold with %d = %v, %d, want %v", mask, s, e, wanted)
		}
	}
}

// P19.4
func TestFold(t *testing.T) {
	r := rand.New(rand.NewSource(196))
	counts := map[api.Errno]int{}
	for range 20000 {
		l, mask := randomSheet(r), r.Intn(32)
		given := slices.Clone(l)
		folded := slices.Clone(l)
		for i := range folded {
			for bit, f := range fields(&folded[i].Key) {
				if mask&(1<<bit) == 0 {
					*f = ""
				}
			}
		}
		want, wantE := of(folded, nil)
		s, e := sheet.Fold(l, mask)
		if !slices.Equal(s, want) || e != wantE {
			t.Fatalf("Fold(%v, %d) = %v, %d, want %v, %d", l, mask, s, e, want, wantE)
		}
		clear(s)
		if !slices.Equal(l, given) {
			t.Fatalf("Fold changed %v to %v", given, l)
		}
		counts[e]++
	}
	if counts[api.OK] < 5000 || counts[api.ErrOver] < 200 {
		t.Errorf("the errors are %v", counts)
	}
}

// P19.5
func TestBase(t *testing.T) {
	for i, c := range []struct {
		l []api.Cell
		n int
		e api.Errno
	}{
		{nil, 0, api.OK}, {[]api.Cell{cell("1", 9, 1), cell("1", 9, 2), cell("0", least, -7)}, -4, api.OK}, {[]api.Cell{cell("1", 0, limit)}, limit, api.OK}, {[]api.Cell{cell("1", 0, -limit)}, -limit, api.OK}, {[]api.Cell{cell("1", 0, limit), cell("2", 0, 1)}, 0, api.ErrOver}, {[]api.Cell{cell("1", 0, -limit), cell("2", 0, -1)}, 0, api.ErrOver}, {[]api.Cell{cell("1", 0, most)}, 0, api.ErrOver}, {[]api.Cell{cell("1", 0, least)}, 0, api.ErrOver},
		{[]api.Cell{cell("1", 0, least), cell("2", 0, least)}, 0, api.ErrOver}, {[]api.Cell{cell("1", 0, most), cell("2", 0, most), cell("3", 0, 5)}, 0, api.ErrOver}, {[]api.Cell{cell("1", 0, most), cell("2", 0, 5), cell("3", 0, -most)}, 5, api.OK},
	} {
		if n, e := sheet.Base(c.l); n != c.n || e != c.e {
			t.Errorf("case %d: Base(%v) = %d, %d, want %d, %d", i, c.l, n, e, c.n, c.e)
		}
	}
	r := rand.New(rand.NewSource(197))
	for range 20000 {
		l := randomCells(r)
		sum := new(big.Int)
		for _, c := range l {
			sum.Add(sum, big.NewInt(int64(c.Base)))
		}
		want, wantE := int(sum.Int64()), api.OK
		if sum.CmpAbs(big.NewInt(limit)) > 0 {
			want, wantE = 0, api.ErrOver
		}
		if n, e := sheet.Base(l); n != want || e != wantE {
			t.Fatalf("Base(%v) = %d, %d, want %d, %d", l, n, e, want, wantE)
		}
	}
}
