package items_test

import (
	"math"
	"math/big"
	"math/rand"
	"slices"
	"strconv"
	"strings"
	"testing"

	"accounting/api"
	"accounting/items"
)

const most, least, limit = math.MaxInt, math.MinInt, api.MaxQty

// noCodes are texts that are not codes.
var noCodes = []string{"", " ", "a b", "a-b", "é", "a\x00", "ab.", strings.Repeat("a", 13)}

// noFactors are fractions that are not valid, or not greater than 0.
var noFactors = []api.Frac{{}, {N: 0, D: 1}, {N: -1, D: 1}, {N: -25, D: 2}, {N: 1, D: 0}, {N: 1, D: -2}, {N: -1, D: -2}, {N: 2, D: 4}, {N: 12, D: 12}, {N: api.MaxPart + 1, D: 1}, {N: 1, D: api.MaxPart + 1}, {N: most, D: most}, {N: least, D: least}, {N: 1, D: least}}

// unit returns a unit of n/d base units.
func unit(name string, n, d int) api.Unit {
	return api.Unit{Name: name, F: api.Frac{N: n, D: d}}
}

// product returns a product with the base unit pc and these units.
func product(code string, units ...api.Unit) api.Product {
	return api.Product{Code: code, Unit: "pc", Method: api.Fifo, Units: units}
}

// bolt returns the product of the chapter's examples.
func bolt() api.Product {
	return product("bolt", unit("box", 12, 1), unit("kg", 25, 2))
}

// same reports whether two products are equal.
func same(a, b api.Product) bool {
	return a.Code == b.Code && a.Unit == b.Unit && a.Method == b.Method && a.Price == b.Price && slices.Equal(a.Units, b.Units)
}

// wantCheck fails unless Check returns this error.
func wantCheck(t *testing.T, p api.Product, wanted api.Errno) {
	t.Helper()
	if e := items.Check(p); e != wanted {
		t.Errorf("Check(%v) = %d, want %d", p, e, wanted)
	}
}

// wantTo fails unless To returns this number and this error.
func wantTo(t *testing.T, p api.Product, qty int, unit string, wanted int, e api.Errno) {
	t.Helper()
	if n, f := items.To(p, qty, unit); n != wanted || f != e {
		t.Errorf("To(%v, %d, %q) = %d, %d, want %d, %d", p, qty, unit, n, f, wanted, e)
	}
}

// wantFrom fails unless From returns this fraction and this error.
func wantFrom(t *testing.T, p api.Product, n int, unit string, wanted api.Frac, e api.Errno) {
	t.Helper()
	if f, g := items.From(p, n, unit); f != wanted || g != e {
		t.Errorf("From(%v, %d, %q) = %v, %d, want %v, %d", p, n, unit, f, g, wanted, e)
	}
}

// wantList fails unless a list has these products, which are in the order of their codes.
func wantList(t *testing.T, x *items.List, wanted ...api.Product) {
	t.Helper()
	if l := x.All(); !slices.EqualFunc(l, wanted, same) {
		t.Errorf("All() = %v, want %v", l, wanted)
	}
	if n := x.Len(); n != len(wanted) {
		t.Errorf("Len() = %d, want %d", n, len(wanted))
	}
	for _, w := range wanted {
		if p, ok := x.Get(w.Code); !same(p, w) || !ok {
			t.Errorf("Get(%q) = %v, %t, want %v", w.Code, p, ok, w)
		}
	}
	for _, code := range append([]string{"none", "BOLT", "bol", "bolts", "pc", "box"}, noCodes...) {
		if p, ok := x.Get(code); !same(p, api.Product{}) || ok {
			t.Errorf("Get(%q) = %v, %t", code, p, ok)
		}
	}
}

// wantNew fails unless New refuses the products with this index and this error.
func wantNew(t *testing.T, at int, e api.Errno, l ...api.Product) {
	t.Helper()
	if x, n, f := items.New(l...); x != nil || n != at || f != e {
		t.Errorf("New of %d products = %v, %d, %d, want %d, %d", len(l), x, n, f, at, e)
	}
}

// build returns a list of these products.
func build(t *testing.T, l ...api.Product) *items.List {
	t.Helper()
	x, at, e := items.New(l...)
	if x == nil || at != 0 || e != api.OK {
		t.Fatalf("New(%v) = %v, %d, %d", l, x, at, e)
	}
	return x
}

// P32.1, P32.2: the chapter's examples.
func TestExamples(t *testing.T) {
	wantCheck(t, bolt(), api.OK)
	wantTo(t, bolt(), 4, "kg", 50, api.OK)
	wantTo(t, bolt(), 3, "kg", 0, api.ErrArg)
	wantTo(t, bolt(), 3, "t", 0, api.ErrItem)
	wantFrom(t, bolt(), 18, "box", api.Frac{N: 3, D: 2}, api.OK)
	wantFrom(t, bolt(), -7, "", api.Frac{N: -7, D: 1}, api.OK)
	nut := product("nut")
	wantList(t, build(t, nut, bolt()), bolt(), nut)
	wantNew(t, 1, api.ErrTwice, bolt(), bolt())
}

// P32.1: products at the limits.
func TestCheckLimits(t *testing.T) {
	for _, method := range []int{api.Fifo, api.Moving, api.Standard, api.Lots} {
		for _, price := range []int{0, 1, api.MaxAmount} {
			p := bolt()
			p.Method, p.Price = method, price
			wantCheck(t, p, api.OK)
		}
	}
	long := strings.Repeat("z", 12)
	for _, p := range []api.Product{
		{Code: "a", Unit: "a", Method: api.Lots}, {Code: long, Unit: long, Method: api.Lots}, {Code: "_", Unit: "9", Method: api.Lots, Units: []api.Unit{}},
		// A unit can have the name of the product, and names differ in the case of letters.
		product("x", unit("x", 1, 1), unit("X", 1, 1), unit("PC", 1, 1), unit("Pc", 1, 1)),
		product("x", unit(long, 1, api.MaxPart), unit("b", api.MaxPart, 1), unit("c", api.MaxPart-1, api.MaxPart), unit("d", 1, 1)),
		product("x", units(10)...),
	} {
		wantCheck(t, p, api.OK)
	}
	wantCheck(t, product("x", units(11)...), api.ErrMany)
}

// units returns n units.
func units(n int) (l []api.Unit) {
	for i := range n {
		l = append(l, unit("u"+strconv.Itoa(i), i+1, 1))
	}
	return l
}

// wrong is a change of a product that leads to an error.
type wrong struct {
	e      api.Errno
	change func(p *api.Product)
}

// wrongs returns changes by the step at which Check finds their errors. A change of a later step does not undo one of an earlier step.
func wrongs() (steps [][]wrong) {
	steps = make([][]wrong, 7)
	add := func(step int, e api.Errno, change func(p *api.Product)) {
		steps[step] = append(steps[step], wrong{e, change})
	}
	for _, s := range noCodes {
		add(0, api.ErrName, func(p *api.Product) { p.Code = s })
		add(0, api.ErrName, func(p *api.Product) { p.Unit = s })
		add(4, api.ErrName, func(p *api.Product) { p.Units[0].Name = s })
		add(6, api.ErrName, func(p *api.Product) { p.Units[2].Name = s })
	}
	for _, n := range []int{0, -1, 5, 6, most, least} {
		add(1, api.ErrKind, func(p *api.Product) { p.Method = n })
	}
	for _, n := range []int{-1, -api.MaxAmount, api.MaxAmount + 1, most, least} {
		add(2, api.ErrRange, func(p *api.Product) { p.Price = n })
	}
	for _, n := range []int{11, 12, 100} {
		add(3, api.ErrMany, func(p *api.Product) { p.Units = slices.Concat(p.Units, units(n)[len(p.Units):]) })
	}
	add(4, api.ErrTwice, func(p *api.Product) { p.Units[0].Name = p.Unit })
	add(6, api.ErrTwice, func(p *api.Product) { p.Units[2].Name = "pc" })
	add(6, api.ErrTwice, func(p *api.Product) { p.Units[2].Name = "kg" })
	add(6, api.ErrTwice, func(p *api.Product) { p.Units[2].Name = "box" })
	for _, f := range noFactors {
		add(5, api.ErrArg, func(p *api.Product) { p.Units[0].F = f })
		add(6, api.ErrArg, func(p *api.Product) { p.Units[2].F = f })
	}
	return steps
}

// P32.1, P32.2: each error of a product, and its place before those that follow it.
func TestProductErrors(t *testing.T) {
	steps := wrongs()
	// A wrong product has its error in all functions, whatever the other arguments are.
	want := func(p api.Product, e api.Errno) {
		t.Helper()
		wantCheck(t, p, e)
		for _, unit := range []string{"", "pc", "kg", "none"} {
			for _, qty := range []int{0, 1, limit, limit + 1, least} {
				wantTo(t, p, qty, unit, 0, e)
				wantFrom(t, p, qty, unit, api.Frac{}, e)
			}
		}
		wantNew(t, 0, e, p, p)
		wantNew(t, 1, e, product("other"), p, api.Product{})
	}
	fresh := func() *api.Product {
		p := bolt()
		p.Units = append(p.Units, unit("g", 1, 80))
		return &p
	}
	wantCheck(t, *fresh(), api.OK)
	for i, step := range steps {
		for _, w := range step {
			p := fresh()
			w.change(p)
			want(*p, w.e)
			for _, later := range slices.Concat(steps[i+1:]...) {
				p := fresh()
				later.change(p)
				w.change(p)
				wantCheck(t, *p, w.e)
			}
		}
	}
}

// P32.1: the errors of a unit come before those of the next unit.
func TestUnitErrors(t *testing.T) {
	bad := api.Frac{N: 2, D: 4}
	for _, c := range []struct {
		units []api.Unit
		e     api.Errno
	}{
		{[]api.Unit{{Name: "a b", F: bad}, {Name: "pc", F: bad}}, api.ErrName},
		{[]api.Unit{{Name: "pc", F: bad}, {Name: "a b"}}, api.ErrTwice},
		{[]api.Unit{{Name: "a", F: bad}, {Name: "pc", F: bad}}, api.ErrArg},
		{[]api.Unit{{Name: "a", F: bad}, {Name: "a", F: bad}}, api.ErrArg},
		{[]api.Unit{unit("a", 1, 1), {Name: "a", F: bad}}, api.ErrTwice},
		{[]api.Unit{unit("a", 1, 1), unit("b", 1, 1), {Name: "a", F: bad}}, api.ErrTwice},
		{[]api.Unit{unit("a", 1, 1), unit("b", 1, 1), {Name: "b"}, {}}, api.ErrTwice},
		{[]api.Unit{unit("a", 1, 1), {}, {Name: "a"}}, api.ErrName},
	} {
		wantCheck(t, product("x", c.units...), c.e)
	}
}

// P32.1: quantities in all units.
func TestTo(t *testing.T) {
	p := product("x", unit("box", 12, 1), unit("kg", 25, 2), unit("g", 1, 80), unit("most", api.MaxPart, 1), unit("tiny", 1, api.MaxPart), unit("near", api.MaxPart, api.MaxPart-1))
	for _, c := range []struct {
		qty    int
		unit   string
		wanted int
		e      api.Errno
	}{
		{0, "", 0, api.OK}, {0, "pc", 0, api.OK}, {0, "kg", 0, api.OK}, {0, "tiny", 0, api.OK}, {9, "", 9, api.OK}, {-9, "pc", -9, api.OK}, {limit, "", limit, api.OK}, {-limit, "pc", -limit, api.OK},
		{1, "box", 12, api.OK}, {-3, "box", -36, api.OK}, {83333333, "box", 999999996, api.OK}, {83333334, "box", 0, api.ErrOver}, {-83333333, "box", -999999996, api.OK}, {-83333334, "box", 0, api.ErrOver}, {limit, "box", 0, api.ErrOver}, {-limit, "box", 0, api.ErrOver},
		{2, "kg", 25, api.OK}, {-4, "kg", -50, api.OK}, {1, "kg", 0, api.ErrArg}, {-1, "kg", 0, api.ErrArg}, {80000000, "kg", limit, api.OK}, {-80000000, "kg", -limit, api.OK}, {80000002, "kg", 0, api.ErrOver},
		// The result is neither an integer nor small enough.
		{80000001, "kg", 0, api.ErrArg}, {limit - 1, "kg", 0, api.ErrArg}, {limit, "kg", 0, api.ErrOver}, {limit - 1, "near", 0, api.ErrArg}, {api.MaxPart - 1, "near", api.MaxPart, api.OK}, {999 * (api.MaxPart - 1), "near", 999 * api.MaxPart, api.OK}, {1000 * (api.MaxPart - 1), "near", limit, api.OK},
		{80, "g", 1, api.OK}, {limit, "g", limit / 80, api.OK}, {79, "g", 0, api.ErrArg}, {-limit, "g", -limit / 80, api.OK}, {-limit + 1, "g", 0, api.ErrArg},
		{1000, "most", limit, api.OK}, {1001, "most", 0, api.ErrOver}, {limit, "most", 0, api.ErrOver}, {-limit, "most", 0, api.ErrOver}, {limit, "tiny", 1000, api.OK}, {-api.MaxPart, "tiny", -1, api.OK}, {1, "tiny", 0, api.ErrArg},
	} {
		wantTo(t, p, c.qty, c.unit, c.wanted, c.e)
	}
}

// P32.1: base units in all units.
func TestFrom(t *testing.T) {
	p := product("x", unit("box", 12, 1), unit("kg", 25, 2), unit("most", api.MaxPart, 1), unit("tiny", 1, api.MaxPart))
	for _, c := range []struct {
		n      int
		unit   string
		wanted api.Frac
		e      api.Errno
	}{
		{0, "", api.Frac{N: 0, D: 1}, api.OK}, {0, "pc", api.Frac{N: 0, D: 1}, api.OK}, {0, "kg", api.Frac{N: 0, D: 1}, api.OK}, {-7, "pc", api.Frac{N: -7, D: 1}, api.OK},
		{api.MaxPart, "", api.Frac{N: api.MaxPart, D: 1}, api.OK}, {-api.MaxPart, "pc", api.Frac{N: -api.MaxPart, D: 1}, api.OK}, {api.MaxPart + 1, "", api.Frac{}, api.ErrOver}, {-api.MaxPart - 1, "pc", api.Frac{}, api.ErrOver}, {limit, "", api.Frac{}, api.ErrOver},
		{-18, "box", api.Frac{N: -3, D: 2}, api.OK}, {24, "box", api.Frac{N: 2, D: 1}, api.OK}, {1, "box", api.Frac{N: 1, D: 12}, api.OK}, {12 * api.MaxPart, "box", api.Frac{N: api.MaxPart, D: 1}, api.OK}, {12*api.MaxPart + 1, "box", api.Frac{}, api.ErrOver}, {12*api.MaxPart + 12, "box", api.Frac{}, api.ErrOver},
		{1, "kg", api.Frac{N: 2, D: 25}, api.OK}, {50, "kg", api.Frac{N: 4, D: 1}, api.OK}, {-3, "kg", api.Frac{N: -6, D: 25}, api.OK}, {limit, "kg", api.Frac{}, api.ErrOver},
		{1, "most", api.Frac{N: 1, D: api.MaxPart}, api.OK}, {limit, "most", api.Frac{N: 1000, D: 1}, api.OK}, {-limit, "most", api.Frac{N: -1000, D: 1}, api.OK}, {limit - 1, "most", api.Frac{}, api.ErrOver}, {999999, "most", api.Frac{N: 999999, D: api.MaxPart}, api.OK},
		{1, "tiny", api.Frac{N: api.MaxPart, D: 1}, api.OK}, {2, "tiny", api.Frac{}, api.ErrOver}, {limit, "tiny", api.Frac{}, api.ErrOver}, {-limit, "tiny", api.Frac{}, api.ErrOver}, {-1, "tiny", api.Frac{N: -api.MaxPart, D: 1}, api.OK},
	} {
		wantFrom(t, p, c.n, c.unit, c.wanted, c.e)
	}
}

// P32.1: unknown units come before quantities that are out of range, and these before all other errors.
func TestQuantityErrors(t *testing.T) {
	p := product("x", unit("kg", 25, 2), unit("half", 1, 2))
	for _, qty := range []int{limit + 1, -limit - 1, 2*limit + 1, most, least, least + 1} {
		for _, unit := range []string{"", "pc", "kg", "half"} {
			wantTo(t, p, qty, unit, 0, api.ErrRange)
			wantFrom(t, p, qty, unit, api.Frac{}, api.ErrRange)
		}
	}
	for _, qty := range []int{0, 1, limit, limit + 1, most, least} {
		for _, unit := range []string{"t", "KG", "Pc", "k", "kgs", "x", " ", "kg ", strings.Repeat("k", 13)} {
			wantTo(t, p, qty, unit, 0, api.ErrItem)
			wantFrom(t, p, qty, unit, api.Frac{}, api.ErrItem)
		}
	}
}

// random returns a product whose units have factors with parts of all sizes.
func random(r *rand.Rand) api.Product {
	p := product("x")
	for i := range 1 + r.Intn(10) {
		high := []int{3, 30, 1000, api.MaxPart}[r.Intn(4)]
		f := big.NewRat(int64(1+r.Intn(high)), int64(1+r.Intn([]int{1, 4, 100, high}[r.Intn(4)])))
		p.Units = append(p.Units, unit("u"+strconv.Itoa(i), int(f.Num().Int64()), int(f.Denom().Int64())))
	}
	return p
}

// P32.1: random products and quantities, compared with fractions of any size.
func TestRandom(t *testing.T) {
	r := rand.New(rand.NewSource(32))
	for range 20000 {
		p := random(r)
		u := p.Units[r.Intn(len(p.Units))]
		qty := r.Intn([]int{5, 100, 100000, limit + 1}[r.Intn(4)])
		if r.Intn(3) == 0 {
			qty -= qty % u.F.D
		}
		if r.Intn(2) == 0 {
			qty = -qty
		}
		n, f := big.NewRat(int64(qty), 1), big.NewRat(int64(u.F.N), int64(u.F.D))
		wanted, e := 0, api.OK
		switch x := new(big.Rat).Mul(n, f); {
		case !x.IsInt():
			e = api.ErrArg
		case x.Num().CmpAbs(big.NewInt(limit)) > 0:
			e = api.ErrOver
		default:
			wanted = int(x.Num().Int64())
		}
		wantTo(t, p, qty, u.Name, wanted, e)
		quotient, e := api.Frac{}, api.OK
		switch x := new(big.Rat).Quo(n, f); {
		case x.Num().CmpAbs(big.NewInt(api.MaxPart)) > 0 || x.Denom().CmpAbs(big.NewInt(api.MaxPart)) > 0:
			e = api.ErrOver
		default:
			quotient = api.Frac{N: int(x.Num().Int64()), D: int(x.Denom().Int64())}
		}
		wantFrom(t, p, qty, u.Name, quotient, e)
	}
}

// P32.3
func TestRoundTrip(t *testing.T) {
	r := rand.New(rand.NewSource(33))
	trips := 0
	for range 20000 {
		p := random(r)
		u := p.Units[r.Intn(len(p.Units))]
		qty := (r.Intn(2001) - 1000) * []int{1, u.F.D}[r.Intn(2)]
		for _, name := range []string{u.Name, "", "pc"} {
			n, e := items.To(p, qty, name)
			if e != api.OK {
				continue
			}
			if qty < -api.MaxPart || qty > api.MaxPart {
				wantFrom(t, p, n, name, api.Frac{}, api.ErrOver)
				continue
			}
			trips++
			wantFrom(t, p, n, name, api.Frac{N: qty, D: 1}, api.OK)
		}
	}
	if trips < 20000 {
		t.Errorf("only %d quantities came back", trips)
	}
}

// P32.2: the number of products, and the index of the first one with an error.
func TestNew(t *testing.T) {
	var all []api.Product
	for i := range 201 {
		all = append(all, product("p"+strconv.Itoa(1000+i), unit("u", i+1, 1)))
	}
	wantList(t, build(t))
	wantList(t, build(t, bolt()), bolt())
	wantList(t, build(t, all[:200]...), all[:200]...)
	wantNew(t, 0, api.ErrMany, all...)
	wantNew(t, 0, api.ErrMany, make([]api.Product, 201)...)
	wantNew(t, 0, api.ErrName, make([]api.Product, 200)...)
	a, b, bad := product("a"), product("b"), product("a", api.Unit{Name: "pc"})
	wantNew(t, 0, api.ErrTwice, bad, bad)
	wantNew(t, 1, api.ErrTwice, a, a, bad)
	wantNew(t, 2, api.ErrTwice, a, b, a)
	wantNew(t, 2, api.ErrTwice, a, b, b, api.Product{})
	wantNew(t, 2, api.ErrName, a, b, api.Product{}, a)
	// A product that occurs earlier can differ in all but its code; its other errors come first.
	other := api.Product{Code: "a", Unit: "kg", Method: api.Lots, Price: 7}
	wantNew(t, 2, api.ErrTwice, a, b, other)
	other.Price = -1
	wantNew(t, 2, api.ErrRange, a, b, other)
	other.Method = 0
	wantNew(t, 2, api.ErrKind, a, b, other)
	for _, at := range []int{0, 1, 100, 198} {
		l := slices.Clone(all[:200])
		l[at].Price = -1
		l[199] = all[0]
		wantNew(t, at, api.ErrRange, l...)
		l[at].Price = 0
		wantNew(t, 199, api.ErrTwice, l...)
	}
}

// P32.2: products in the order of the bytes of their codes, however they were given.
func TestOrder(t *testing.T) {
	var wanted []api.Product
	for i, code := range []string{"0", "10", "1a", "9", "A", "Z", "_", "a", "aA", "aa", "b", "bolt", "zzzzzzzzzzzz"} {
		wanted = append(wanted, api.Product{Code: code, Unit: "u", Method: 1 + i%4, Price: i, Units: units(i % 11)})
	}
	r := rand.New(rand.NewSource(34))
	for range 50 {
		l := slices.Clone(wanted)
		r.Shuffle(len(l), func(i, j int) { l[i], l[j] = l[j], l[i] })
		x := build(t, l...)
		if got := x.All(); !slices.EqualFunc(got, wanted, same) {
			t.Fatalf("All() = %v, want %v", got, wanted)
		}
		for _, w := range wanted {
			if p, ok := x.Get(w.Code); !same(p, w) || !ok {
				t.Errorf("Get(%q) = %v, %t, want %v", w.Code, p, ok, w)
			}
		}
	}
}

// P32.2
func TestNilList(t *testing.T) {
	wantList(t, nil)
	if p, ok := (*items.List)(nil).Get("bolt"); !same(p, api.Product{}) || ok {
		t.Errorf("Get of a nil list = %v, %t", p, ok)
	}
}

// P32.2: a list keeps its products whatever happens to what it was given and to what it returned, and changes nothing itself.
func TestMemory(t *testing.T) {
	all := append(bolt().Units, unit("behind", 7, 1))
	kept := slices.Clone(all)
	given := bolt()
	given.Units = all[:2]
	nut := product("nut", unit("t", 3, 1))
	l := []api.Product{nut, given}
	x := build(t, l...)
	if !slices.EqualFunc(l, []api.Product{nut, bolt()}, same) || !slices.Equal(all, kept) {
		t.Fatalf("New changed its arguments to %v, %v", l, all)
	}
	l[0], all[0] = api.Product{}, api.Unit{}
	one, _ := x.Get("bolt")
	two, _ := x.Get("bolt")
	first, second := x.All(), x.All()
	for _, p := range []api.Product{one, first[0], first[1]} {
		for i := range p.Units {
			p.Units[i] = unit("changed", 9, 1)
		}
		_ = append(p.Units, unit("more", 9, 1))
	}
	first[1] = api.Product{}
	if !same(two, bolt()) || !slices.EqualFunc(second, []api.Product{bolt(), nut}, same) {
		t.Errorf("results share memory: %v, %v", two, second)
	}
	wantList(t, x, bolt(), nut)
	// The other functions only read.
	p := bolt()
	p.Units = kept[:2]
	items.Check(p)
	items.To(p, 4, "kg")
	items.From(p, 4, "kg")
	if !slices.Equal(kept, append(bolt().Units, unit("behind", 7, 1))) {
		t.Errorf("the units became %v", kept)
	}
}
