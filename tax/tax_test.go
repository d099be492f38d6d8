package tax_test

import (
	"maps"
	"math"
	"math/big"
	"math/rand"
	"slices"
	"strconv"
	"strings"
	"testing"

	"accounting/api"
	"accounting/tax"
)

const most, least, part = math.MaxInt, math.MinInt, api.MaxPart

// modes are all rounding modes, and ways all ways of taxation.
var (
	modes = []int{api.Down, api.Up, api.Half, api.Even, api.Floor}
	ways  = []int{api.PerLine, api.PerCode, api.Within}
)

// wrongKinds are neither ways nor modes.
var wrongKinds = []int{0, -1, -3, 6, 99, most, least}

// rates are tax rates at the limits and between them.
var rates = []api.Frac{{N: 0, D: 1}, {N: 1, D: 1}, {N: 19, D: 100}, {N: 7, D: 100}, {N: 1, D: 2}, {N: 1, D: 3}, {N: 2, D: 3}, {N: 1, D: 4}, {N: 1, D: part}, {N: part - 1, D: part}, {N: 999979, D: 999983}}

// wrongRates are fractions that are not tax rates.
var wrongRates = []api.Frac{{}, {N: 2, D: 1}, {N: 3, D: 2}, {N: part, D: part - 1}, {N: -1, D: 2}, {N: -1, D: 1}, {N: 2, D: 4}, {N: 0, D: 2}, {N: 0, D: -1}, {N: 1, D: -2}, {N: -1, D: -2}, {N: part, D: part}, {N: 1, D: part + 1}, {N: 1}, {N: most, D: most}, {N: least, D: least}, {N: least, D: 1}, {N: 1, D: least}, {N: 1, D: most}}

// std is the rate of the chapter's examples.
var std = api.Frac{N: 19, D: 100}

// rounded returns x, rounded as mode says.
func rounded(x *big.Rat, mode int) int {
	// The quotient of Euclidean division by a positive number is rounded towards negative infinity.
	below, rest := new(big.Int).DivMod(x.Num(), x.Denom(), new(big.Int))
	twice := new(big.Int).Lsh(rest, 1).Cmp(x.Denom())
	n := int(below.Int64())
	if rest.Sign() == 0 {
		return n
	}
	var up bool
	switch mode {
	case api.Down:
		up = x.Sign() < 0
	case api.Up:
		up = x.Sign() > 0
	case api.Half:
		up = twice > 0 || twice == 0 && x.Sign() > 0
	case api.Even:
		up = twice > 0 || twice == 0 && n%2 != 0
	}
	if up {
		return n + 1
	}
	return n
}

// product returns amount · n / d.
func product(amount, n, d int) *big.Rat {
	return new(big.Rat).Mul(big.NewRat(int64(amount), 1), big.NewRat(int64(n), int64(d)))
}

// wantOn fails unless On returns this tax and this error.
func wantOn(t *testing.T, net int, f api.Frac, mode, wanted int, e api.Errno) {
	t.Helper()
	if n, g := tax.On(net, f, mode); n != wanted || g != e {
		t.Errorf("On(%d, %v, %d) = %d, %d, want %d, %d", net, f, mode, n, g, wanted, e)
	}
}

// wantIn fails unless In returns these parts and this error.
func wantIn(t *testing.T, gross int, f api.Frac, mode, net, part int, e api.Errno) {
	t.Helper()
	if n, x, g := tax.In(gross, f, mode); n != net || x != part || g != e {
		t.Errorf("In(%d, %v, %d) = %d, %d, %d, want %d, %d, %d", gross, f, mode, n, x, g, net, part, e)
	}
}

// P25.1: the chapter's first example, and others that are worked out by hand.
func TestExamples(t *testing.T) {
	wantOn(t, 250, std, api.Half, 48, api.OK)
	wantIn(t, 119, std, api.Half, 100, 19, api.OK)
	// 47.5
	for mode, wanted := range map[int]int{api.Down: 47, api.Up: 48, api.Half: 48, api.Even: 48, api.Floor: 47} {
		wantOn(t, 250, std, mode, wanted, api.OK)
	}
	// -47.5
	for mode, wanted := range map[int]int{api.Down: -47, api.Up: -48, api.Half: -48, api.Even: -48, api.Floor: -48} {
		wantOn(t, -250, std, mode, wanted, api.OK)
	}
	// 12.5
	for mode, wanted := range map[int]int{api.Down: 12, api.Up: 13, api.Half: 13, api.Even: 12, api.Floor: 12} {
		wantOn(t, 50, api.Frac{N: 1, D: 4}, mode, wanted, api.OK)
	}
	// -100 · 19 / 119 is -15.97, and 5 · 1 / 2 is 2.5.
	for mode, wanted := range map[int]int{api.Down: -15, api.Up: -16, api.Half: -16, api.Even: -16, api.Floor: -16} {
		wantIn(t, -100, std, mode, -100-wanted, wanted, api.OK)
	}
	for mode, wanted := range map[int]int{api.Down: 2, api.Up: 3, api.Half: 3, api.Even: 2, api.Floor: 2} {
		wantIn(t, 5, api.Frac{N: 1, D: 1}, mode, 5-wanted, wanted, api.OK)
	}
}

// P25.1: amounts of all sizes with all rates and modes.
func TestOnAndIn(t *testing.T) {
	r := rand.New(rand.NewSource(25))
	amounts := []int{0, 1, 2, 3, 50, 250, api.MaxAmount, api.MaxSum - 1, api.MaxSum}
	for range 200 {
		amounts = append(amounts, r.Intn(1000), r.Intn(api.MaxSum))
	}
	all := slices.Clone(rates)
	for range 40 {
		f := big.NewRat(int64(r.Intn(1000)), int64(1000+r.Intn(part-1000)))
		all = append(all, api.Frac{N: int(f.Num().Int64()), D: int(f.Denom().Int64())})
	}
	for _, f := range all {
		for _, mode := range modes {
			for _, a := range amounts {
				for _, amount := range []int{a, -a} {
					wantOn(t, amount, f, mode, rounded(product(amount, f.N, f.D), mode), api.OK)
					in := rounded(product(amount, f.N, f.N+f.D), mode)
					wantIn(t, amount, f, mode, amount-in, in, api.OK)
				}
			}
		}
	}
}

// P25.1: the errors, in their order.
func TestOnAndInErrors(t *testing.T) {
	want := func(amount int, f api.Frac, mode int, e api.Errno) {
		t.Helper()
		wantOn(t, amount, f, mode, 0, e)
		wantIn(t, amount, f, mode, 0, 0, e)
	}
	over := []int{api.MaxSum + 1, -api.MaxSum - 1, most, least}
	for _, amount := range append([]int{0, 100}, over...) {
		for _, f := range append(slices.Clone(rates), wrongRates...) {
			for _, mode := range wrongKinds {
				want(amount, f, mode, api.ErrKind)
			}
		}
		for _, f := range wrongRates {
			for _, mode := range modes {
				want(amount, f, mode, api.ErrArg)
			}
		}
	}
	for _, amount := range over {
		for _, f := range rates {
			for _, mode := range modes {
				want(amount, f, mode, api.ErrOver)
			}
		}
	}
}

// code returns a tax code with a valid account.
func code(name string, f api.Frac) api.TaxCode {
	return api.TaxCode{Name: name, Account: "22", F: f}
}

// named returns n tax codes with increasing names.
func named(n int) (l []api.TaxCode) {
	for i := range n {
		l = append(l, code("c"+strconv.Itoa(1000+i), rates[i%len(rates)]))
	}
	return l
}

// wrongCodes are lists of tax codes that are not valid.
func wrongCodes() [][]api.TaxCode {
	l := [][]api.TaxCode{
		{{}}, {code("", std)}, {code("a b", std)}, {code("é", std)}, {code(strings.Repeat("a", 13), std)}, {code("b", std), code("a", std)}, {code("a", std), code("a", std)}, {code("a", std), code("B", std)}, {code("9", std), code("10", std)},
		{code("a", std), code("c", std), code("b", std)}, {code("a", std), code("b", std), code("b", std)}, {code("a", std), code("", std)}, named(201),
	}
	for _, account := range []string{"", "2 2", "-", "é", strings.Repeat("2", 13)} {
		l = append(l, []api.TaxCode{{Name: "a", Account: account, F: std}}, []api.TaxCode{code("a", std), {Name: "b", Account: account, F: std}})
	}
	for _, f := range wrongRates {
		l = append(l, []api.TaxCode{code("a", f)}, []api.TaxCode{code("a", std), code("b", std), code("c", f)})
	}
	return l
}

// P25.2
func TestCodes(t *testing.T) {
	for _, l := range [][]api.TaxCode{
		nil, {}, {code("a", std)}, {code("a", std), code("b", std)}, {code("10", std), code("9", std)}, {code("B", std), code("a", std)}, {code("_", std), code("a", std), code("aa", std), code("b", std)},
		{code(strings.Repeat("a", 12), std)}, {{Name: "a", Account: strings.Repeat("9", 12), F: std}}, {{Name: "a", Account: "Z_9", F: std}}, named(11), named(200),
	} {
		given := slices.Clone(l)
		if !tax.Codes(l) {
			t.Errorf("Codes(%v) is false", l)
		}
		if !slices.Equal(l, given) {
			t.Errorf("Codes changed %v to %v", given, l)
		}
	}
	for _, l := range wrongCodes() {
		if tax.Codes(l) {
			t.Errorf("Codes(%v) is true", l)
		}
	}
}

// want fails unless Of returns these results.
func want(t *testing.T, l []api.TaxLine, codes []api.TaxCode, way, mode int, nets []int, sums []api.TaxSum, e api.Errno) {
	t.Helper()
	lines, list := slices.Clone(l), slices.Clone(codes)
	n, s, f := tax.Of(l, codes, way, mode)
	if !slices.Equal(n, nets) || !slices.Equal(s, sums) || f != e {
		t.Fatalf("Of(%v, way %d, mode %d) = %v, %v, %d, want %v, %v, %d", l, way, mode, n, s, f, nets, sums, e)
	}
	clear(n)
	clear(s)
	if !slices.Equal(l, lines) || !slices.Equal(codes, list) {
		t.Fatal("Of changed its arguments")
	}
}

// P25.2: the chapter's second example.
func TestOfExample(t *testing.T) {
	codes := []api.TaxCode{{Name: "std", Account: "22", F: std}}
	l := []api.TaxLine{{Amount: 103, Code: "std"}, {Amount: 103, Code: "std"}, {Amount: 50}}
	want(t, l, codes, api.PerLine, api.Half, []int{103, 103, 50}, []api.TaxSum{{Code: "std", Net: 206, Tax: 40}}, api.OK)
	want(t, l, codes, api.PerCode, api.Half, []int{103, 103, 50}, []api.TaxSum{{Code: "std", Net: 206, Tax: 39}}, api.OK)
	want(t, l, codes, api.Within, api.Half, []int{87, 87, 50}, []api.TaxSum{{Code: "std", Net: 174, Tax: 32}}, api.OK)
}

// P25.2: lines without a code, codes that do not occur, and sums of 0.
func TestOfSums(t *testing.T) {
	codes := []api.TaxCode{code("a", std), code("b", rates[0]), code("c", rates[1]), code("d", rates[4])}
	for _, way := range ways {
		for _, mode := range modes {
			want(t, nil, codes, way, mode, nil, nil, api.OK)
			want(t, nil, nil, way, mode, nil, nil, api.OK)
			want(t, []api.TaxLine{{Amount: 7}, {}, {Amount: -api.MaxAmount}}, nil, way, mode, []int{7, 0, -api.MaxAmount}, nil, api.OK)
			want(t, []api.TaxLine{{Amount: 7, Code: "b"}, {Amount: 0, Code: "a"}}, codes, way, mode, []int{7, 0}, []api.TaxSum{{Code: "a"}, {Code: "b", Net: 7}}, api.OK)
			want(t, []api.TaxLine{{Amount: 119, Code: "a"}, {Amount: -119, Code: "a"}}, []api.TaxCode{code("a", rates[0])}, way, mode, []int{119, -119}, []api.TaxSum{{Code: "a"}}, api.OK)
		}
	}
	// The codes come in their order, whatever the order of the lines is.
	l := []api.TaxLine{{Amount: 3, Code: "d"}, {Amount: 10, Code: "c"}, {Amount: 5}, {Amount: -4, Code: "d"}, {Amount: 100, Code: "a"}}
	want(t, l, codes, api.PerLine, api.Down, []int{3, 10, 5, -4, 100}, []api.TaxSum{{Code: "a", Net: 100, Tax: 19}, {Code: "c", Net: 10, Tax: 10}, {Code: "d", Net: -1, Tax: -1}}, api.OK)
	want(t, l, codes, api.PerCode, api.Down, []int{3, 10, 5, -4, 100}, []api.TaxSum{{Code: "a", Net: 100, Tax: 19}, {Code: "c", Net: 10, Tax: 10}, {Code: "d", Net: -1, Tax: 0}}, api.OK)
	want(t, l, codes, api.Within, api.Down, []int{2, 5, 5, -3, 85}, []api.TaxSum{{Code: "a", Net: 85, Tax: 15}, {Code: "c", Net: 5, Tax: 5}, {Code: "d", Net: -1, Tax: 0}}, api.OK)
}

// P25.2: as many lines and codes as possible, with the largest amounts.
func TestOfLimits(t *testing.T) {
	for _, sign := range []int{1, -1} {
		l := slices.Repeat([]api.TaxLine{{Amount: sign * api.MaxAmount, Code: "a"}}, 200)
		sum := 200 * sign * api.MaxAmount
		for _, mode := range modes {
			for _, way := range []int{api.PerLine, api.PerCode} {
				want(t, l, []api.TaxCode{code("a", rates[1])}, way, mode, slices.Repeat([]int{sign * api.MaxAmount}, 200), []api.TaxSum{{Code: "a", Net: sum, Tax: sum}}, api.OK)
			}
			want(t, l, []api.TaxCode{code("a", rates[1])}, api.Within, mode, slices.Repeat([]int{sign * api.MaxAmount / 2}, 200), []api.TaxSum{{Code: "a", Net: sum / 2, Tax: sum / 2}}, api.OK)
		}
	}
	codes := named(200)
	var l []api.TaxLine
	var nets []int
	var sums []api.TaxSum
	for i, c := range codes {
		l = append(l, api.TaxLine{Amount: i, Code: c.Name})
		nets = append(nets, i)
		sums = append(sums, api.TaxSum{Code: c.Name, Net: i, Tax: rounded(product(i, c.F.N, c.F.D), api.Half)})
	}
	want(t, l, codes, api.PerLine, api.Half, nets, sums, api.OK)
	want(t, l, codes, api.PerCode, api.Half, nets, sums, api.OK)
	slices.Reverse(l)
	slices.Reverse(nets)
	want(t, l, codes, api.PerLine, api.Half, nets, sums, api.OK)
}

// P25.2: the errors, in their order; each step takes away the first error that is left.
func TestOfErrors(t *testing.T) {
	codes := []api.TaxCode{code("b", std), code("d", std)}
	many := make([]api.TaxLine, 201)
	many[0].Amount, many[1].Code = api.MaxAmount+1, "x"
	for _, kind := range wrongKinds {
		want(t, many, []api.TaxCode{{}}, kind, api.Half, nil, nil, api.ErrKind)
		want(t, many, []api.TaxCode{{}}, api.PerCode, kind, nil, nil, api.ErrKind)
		want(t, nil, nil, kind, kind, nil, nil, api.ErrKind)
	}
	// These are modes, but not ways.
	want(t, nil, nil, api.Even, api.Even, nil, nil, api.ErrKind)
	want(t, nil, nil, api.Floor, api.Floor, nil, nil, api.ErrKind)
	for _, way := range ways {
		for _, l := range wrongCodes() {
			want(t, many, l, way, api.Half, nil, nil, api.ErrArg)
			want(t, nil, l, way, api.Half, nil, nil, api.ErrArg)
		}
		want(t, many, codes, way, api.Half, nil, nil, api.ErrMany)
		want(t, make([]api.TaxLine, 201), nil, way, api.Half, nil, nil, api.ErrMany)
		want(t, many[:200], codes, way, api.Half, nil, nil, api.ErrOver)
		want(t, many[1:], codes, way, api.Half, nil, nil, api.ErrRef)
		want(t, make([]api.TaxLine, 200), codes, way, api.Half, make([]int, 200), nil, api.OK)
		for _, amount := range []int{api.MaxAmount + 1, -api.MaxAmount - 1, api.MaxSum, most, least} {
			// The first line that has an error counts, and its amount before its code.
			for _, name := range []string{"", "b", "x"} {
				want(t, []api.TaxLine{{Amount: 1, Code: "d"}, {Amount: amount, Code: name}, {Code: "y"}}, codes, way, api.Half, nil, nil, api.ErrOver)
				want(t, []api.TaxLine{{Amount: 1, Code: "y"}, {Amount: amount, Code: name}}, codes, way, api.Half, nil, nil, api.ErrRef)
			}
		}
		for _, name := range []string{"a", "c", "e", "B", "bb", " ", "b ", strings.Repeat("b", 13)} {
			want(t, []api.TaxLine{{Code: "b"}, {Code: name}}, codes, way, api.Half, nil, nil, api.ErrRef)
			want(t, []api.TaxLine{{Code: name}}, nil, way, api.Half, nil, nil, api.ErrRef)
		}
	}
}

// P25.2, P25.3: random lines, compared with a model.
func TestRandomLines(t *testing.T) {
	r := rand.New(rand.NewSource(26))
	for range 3000 {
		var codes []api.TaxCode
		for i := range r.Intn(6) {
			codes = append(codes, code("c"+strconv.Itoa(i), rates[r.Intn(len(rates))]))
		}
		var l []api.TaxLine
		size := []int{5, 1000, api.MaxAmount}[r.Intn(3)]
		for range r.Intn(12) {
			x := api.TaxLine{Amount: r.Intn(2*size+1) - size}
			if len(codes) > 0 && r.Intn(5) > 0 {
				x.Code = codes[r.Intn(len(codes))].Name
			}
			l = append(l, x)
		}
		mode := modes[r.Intn(len(modes))]
		taxes := map[int]map[string]int{}
		for _, way := range ways {
			nets, sums := model(l, codes, way, mode)
			want(t, l, codes, way, mode, nets, sums, api.OK)
			checkSums(t, l, codes, way, mode)
			taxes[way] = map[string]int{}
			_, sums, _ = tax.Of(l, codes, way, mode)
			for _, s := range sums {
				taxes[way][s.Code] = s.Tax
			}
		}
		counts := map[string]int{}
		for _, x := range l {
			counts[x.Code]++
		}
		for name, n := range taxes[api.PerLine] {
			if d := n - taxes[api.PerCode][name]; d > counts[name] || -d > counts[name] {
				t.Fatalf("PerLine and PerCode differ by %d for %d lines of %s", d, counts[name], name)
			}
		}
	}
}

// model computes the results of Of code by code.
func model(l []api.TaxLine, codes []api.TaxCode, way, mode int) (nets []int, sums []api.TaxSum) {
	for _, x := range l {
		nets = append(nets, x.Amount)
	}
	byName := map[string]api.TaxSum{}
	for _, c := range codes {
		sum, exact := api.TaxSum{Code: c.Name}, new(big.Rat)
		for i, x := range l {
			if x.Code != c.Name {
				continue
			}
			share := product(x.Amount, c.F.N, c.F.D)
			if way == api.Within {
				share = product(x.Amount, c.F.N, c.F.N+c.F.D)
				nets[i] = x.Amount - rounded(share, mode)
			}
			exact.Add(exact, share)
			sum.Net += nets[i]
			sum.Tax += rounded(share, mode)
			byName[c.Name] = sum
		}
		if _, occurs := byName[c.Name]; occurs && way == api.PerCode {
			sum.Tax = rounded(exact, mode)
			byName[c.Name] = sum
		}
	}
	for _, name := range slices.Sorted(maps.Keys(byName)) {
		sums = append(sums, byName[name])
	}
	return nets, sums
}

// checkSums fails unless the nets and taxes add up to what P25.3 and the description of the ways say.
func checkSums(t *testing.T, l []api.TaxLine, codes []api.TaxCode, way, mode int) {
	t.Helper()
	nets, sums, _ := tax.Of(l, codes, way, mode)
	total, taxed, free, gross, taxes := 0, 0, 0, 0, 0
	for i, x := range l {
		gross += x.Amount
		total += nets[i]
		if x.Code == "" {
			free += nets[i]
		}
	}
	for _, s := range sums {
		taxed += s.Net
		taxes += s.Tax
	}
	if total != taxed+free {
		t.Fatalf("the nets add up to %d, those of the codes to %d, and the others to %d", total, taxed, free)
	}
	switch {
	case way == api.Within && total+taxes != gross:
		t.Fatalf("the nets %d and the taxes %d do not add up to %d", total, taxes, gross)
	case way != api.Within && total != gross:
		t.Fatalf("the nets %d are not the amounts %d", total, gross)
	}
}
