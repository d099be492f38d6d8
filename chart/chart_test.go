package chart_test

import (
	"math"
	"math/rand"
	"reflect"
	"regexp"
	"slices"
	"sort"
	"strconv"
	"strings"
	"testing"

	"accounting/api"
	"accounting/chart"
)

// account returns an account of the kind Asset.
func account(code, parent string) api.Account {
	return api.Account{Code: code, Parent: parent, Kind: api.Asset}
}

// changed returns the account after a change.
func changed(a api.Account, change func(a *api.Account)) api.Account {
	change(&a)
	return a
}

// example returns the accounts of the chapter's first example.
func example() []api.Account {
	return []api.Account{
		{Code: "1", Kind: api.Asset},
		{Code: "12", Parent: "1", Kind: api.Asset, Post: true, Need: []string{"dept"}},
		{Code: "11", Parent: "1", Kind: api.Asset, Post: true, Cur: "USD"},
	}
}

// build returns the chart of accounts that have no error.
func build(t *testing.T, l ...api.Account) *chart.Chart {
	t.Helper()
	c, at, e := chart.New(l...)
	if c == nil || at != 0 || e != api.OK {
		t.Fatalf("New(%v) = %v, %d, %d", l, c, at, e)
	}
	return c
}

// chain returns n accounts, each below the one before it.
func chain(n int) []api.Account {
	l := []api.Account{account("a0", "")}
	for i := 1; i < n; i++ {
		l = append(l, account("a"+strconv.Itoa(i), l[i-1].Code))
	}
	return l
}

var code = regexp.MustCompile(`^[A-Za-z0-9_]{1,12}\z`)
var currency = regexp.MustCompile(`^[A-Z]{3}\z`)

// ownError returns the first error of an account apart from its Parent.
func ownError(l []api.Account, i int) api.Errno {
	a := l[i]
	needed := append([]string{a.Code}, a.Need...)
	if a.Parent != "" {
		needed = append(needed, a.Parent)
	}
	for _, s := range needed {
		if !code.MatchString(s) {
			return api.ErrName
		}
	}
	if a.Kind < 1 || a.Kind > 5 {
		return api.ErrKind
	}
	if a.Cur != "" && !currency.MatchString(a.Cur) {
		return api.ErrCur
	}
	for _, b := range l[:i] {
		if b.Code == a.Code {
			return api.ErrTwice
		}
	}
	if len(a.Need) > 6 || !sort.StringsAreSorted(a.Need) || len(slices.Compact(slices.Clone(a.Need))) < len(a.Need) {
		return api.ErrTag
	}
	return api.OK
}

// parentError returns the first error of an account and its Parent.
func parentError(l []api.Account, i int) api.Errno {
	parents := map[string]api.Account{}
	for _, a := range l {
		parents[a.Code] = a
	}
	a := l[i]
	if a.Parent == "" {
		return api.OK
	}
	p, ok := parents[a.Parent]
	switch {
	case !ok:
		return api.ErrRef
	case p.Kind != a.Kind:
		return api.ErrKind
	case p.Post:
		return api.ErrAccount
	}
	seen := map[string]bool{}
	for s := a.Parent; s != "" && !seen[s]; s = parents[s].Parent {
		seen[s] = true
	}
	if seen[a.Code] {
		return api.ErrCycle
	}
	return api.OK
}

// expected returns the index and the error that New returns for these accounts, as the chapter describes them.
func expected(l []api.Account) (int, api.Errno) {
	for _, errorOf := range []func([]api.Account, int) api.Errno{ownError, parentError} {
		for i := range l {
			if e := errorOf(l, i); e != api.OK {
				return i, e
			}
		}
	}
	return 0, api.OK
}

// randomAccounts returns a few accounts, which often form a chart.
func randomAccounts(r *rand.Rand) []api.Account {
	l := make([]api.Account, r.Intn(9))
	wrong := r.Intn(2) == 0
	for i := range l {
		l[i] = account(string(rune('a'+(i*5+2)%9)), "")
		if r.Intn(4) > 0 && i > 0 {
			l[i].Parent = l[r.Intn(i)].Code
		}
		l[i].Post = r.Intn(12) == 0
		l[i].Inter = r.Intn(2) == 0
		l[i].Monetary = r.Intn(2) == 0
		l[i].Cur = []string{"", "EUR", "USD"}[r.Intn(3)]
		l[i].Need = [][]string{nil, {}, {"d"}, {"d", "p"}}[r.Intn(4)]
		if wrong && r.Intn(5) == 0 {
			spoil(r, &l[i])
		}
	}
	r.Shuffle(len(l), func(i, j int) { l[i], l[j] = l[j], l[i] })
	return l
}

// spoil changes an account so that it may have an error.
func spoil(r *rand.Rand, a *api.Account) {
	switch r.Intn(9) {
	case 0:
		a.Code = []string{"", "a b", "ä"}[r.Intn(3)]
	case 1:
		a.Parent = []string{"?", "z", a.Code, "abcdefghijklm"}[r.Intn(4)]
	case 2:
		a.Need = [][]string{{"d", ""}, {"p", "d"}, {"d", "d"}, {"a", "b", "c", "d", "e", "f", "g"}}[r.Intn(4)]
	case 3:
		a.Kind = []int{0, 6, -1, 2, 3}[r.Intn(5)]
	case 4:
		a.Cur = []string{"eur", "EURO", "E"}[r.Intn(3)]
	case 5:
		a.Code = "c"
	default:
		a.Parent = string(rune('a' + r.Intn(9)))
	}
}

// P10.1
func TestNew(t *testing.T) {
	r := rand.New(rand.NewSource(10))
	counts := map[api.Errno]int{}
	for range 40000 {
		l := randomAccounts(r)
		at, e := expected(l)
		c, gotAt, gotE := chart.New(l...)
		if gotAt != at || gotE != e || (c == nil) != (e != api.OK) {
			t.Fatalf("New(%+v) = %v, %d, %d, want %d, %d", l, c, gotAt, gotE, at, e)
		}
		counts[e]++
	}
	for _, e := range []api.Errno{api.OK, api.ErrName, api.ErrKind, api.ErrCur, api.ErrTwice, api.ErrTag, api.ErrRef, api.ErrAccount, api.ErrCycle} {
		if counts[e] < 100 {
			t.Errorf("error %d occurred only %d times", e, counts[e])
		}
	}
}

// P10.1
func TestNewErrorsOfAccounts(t *testing.T) {
	good := account("g", "")
	bad := account("b", "")
	names := func(n int) []string {
		var l []string
		for i := range n {
			l = append(l, "n"+strconv.Itoa(i))
		}
		return l
	}
	for _, c := range []struct {
		name   string
		change func(a *api.Account)
		e      api.Errno
	}{
		{"an empty code", func(a *api.Account) { a.Code = "" }, api.ErrName},
		{"a long code", func(a *api.Account) { a.Code = "abcdefghijklm" }, api.ErrName},
		{"a long parent", func(a *api.Account) { a.Parent = "abcdefghijklm" }, api.ErrName},
		{"a blank as parent", func(a *api.Account) { a.Parent = " " }, api.ErrName},
		{"an empty need", func(a *api.Account) { a.Need = []string{""} }, api.ErrName},
		{"the last need wrong", func(a *api.Account) { a.Need = []string{"a", "b", "c*"} }, api.ErrName},
		{"the eighth need wrong", func(a *api.Account) { a.Need = append(names(7), "?") }, api.ErrName},
		{"the kind 0", func(a *api.Account) { a.Kind = 0 }, api.ErrKind},
		{"the kind 6", func(a *api.Account) { a.Kind = 6 }, api.ErrKind},
		{"the least kind", func(a *api.Account) { a.Kind = math.MinInt }, api.ErrKind},
		{"the greatest kind", func(a *api.Account) { a.Kind = math.MaxInt }, api.ErrKind},
		{"a short currency", func(a *api.Account) { a.Cur = "EU" }, api.ErrCur},
		{"small letters", func(a *api.Account) { a.Cur = "eur" }, api.ErrCur},
		{"the code of another account", func(a *api.Account) { a.Code = "g" }, api.ErrTwice},
		{"equal needs", func(a *api.Account) { a.Need = []string{"a", "a"} }, api.ErrTag},
		{"falling needs", func(a *api.Account) { a.Need = []string{"a", "c", "b"} }, api.ErrTag},
		{"seven needs", func(a *api.Account) { a.Need = names(7) }, api.ErrTag},
		{"six needs", func(a *api.Account) { a.Need = names(6) }, api.OK},
		{"a code of 12 bytes", func(a *api.Account) { a.Code = "abcdefghijkl" }, api.OK},
		{"an unknown parent", func(a *api.Account) { a.Parent = "x" }, api.ErrRef},
		{"itself as parent", func(a *api.Account) { a.Parent = "b" }, api.ErrCycle},
		{"itself, postable, as parent", func(a *api.Account) { a.Parent, a.Post = "b", true }, api.ErrAccount},
		{"a parent of another kind", func(a *api.Account) { a.Parent, a.Kind = "g", api.Equity }, api.ErrKind},
	} {
		wantAt := 1
		if c.e == api.OK {
			wantAt = 0
		}
		if _, at, e := chart.New(good, changed(bad, c.change), account("h", "")); at != wantAt || e != c.e {
			t.Errorf("%s: %d, %d, want %d, %d", c.name, at, e, wantAt, c.e)
		}
	}
	for kind := api.Asset; kind <= api.Expense; kind++ {
		build(t, api.Account{Code: "a", Kind: kind}, api.Account{Code: "b", Parent: "a", Kind: kind})
	}
}

// P10.1
func TestNewOrderOfErrors(t *testing.T) {
	// The account has all errors; each change removes the first one that is left.
	wrong := api.Account{Code: "", Parent: "?", Need: []string{"b", "a", "?"}, Cur: "x"}
	good := changed(account("g", ""), func(a *api.Account) { a.Post = true })
	for i, step := range []struct {
		change func(a *api.Account)
		e      api.Errno
	}{
		{func(a *api.Account) {}, api.ErrName},
		{func(a *api.Account) { a.Code = "g" }, api.ErrName},
		{func(a *api.Account) { a.Parent = "z" }, api.ErrName},
		{func(a *api.Account) { a.Need = []string{"b", "a"} }, api.ErrKind},
		{func(a *api.Account) { a.Kind = api.Income }, api.ErrCur},
		{func(a *api.Account) { a.Cur = "EUR" }, api.ErrTwice},
		{func(a *api.Account) { a.Code = "b" }, api.ErrTag},
		{func(a *api.Account) { a.Need = []string{"a", "b"} }, api.ErrRef},
		{func(a *api.Account) { a.Parent = "g" }, api.ErrKind},
		{func(a *api.Account) { a.Kind = api.Asset }, api.ErrAccount},
		{func(a *api.Account) { a.Parent = "h" }, api.OK},
	} {
		step.change(&wrong)
		wantAt := 1
		if step.e == api.OK {
			wantAt = 0
		}
		if _, at, e := chart.New(good, wrong, account("h", "")); at != wantAt || e != step.e {
			t.Errorf("step %d: %d, %d, want %d, %d", i, at, e, wantAt, step.e)
		}
	}
	// An error of the first kind comes first, even if an earlier account has one of the second kind.
	if c, at, e := chart.New(account("a", "z"), account("b", ""), api.Account{Code: "c"}); c != nil || at != 2 || e != api.ErrKind {
		t.Errorf("New with two kinds of errors = %v, %d, %d", c, at, e)
	}
	if c, at, e := chart.New(api.Account{Code: "1", Kind: api.Asset}, api.Account{Code: "2", Parent: "1", Kind: api.Equity}); c != nil || at != 1 || e != api.ErrKind {
		t.Errorf("New of the chapter's third example = %v, %d, %d", c, at, e)
	}
}

// P10.1
func TestNewCycles(t *testing.T) {
	// Only accounts of the cycle have the error, not those below it.
	for _, c := range []struct {
		l  []api.Account
		at int
		e  api.Errno
	}{
		{[]api.Account{account("a", "b"), account("b", "a")}, 0, api.ErrCycle},
		{[]api.Account{account("x", "a"), account("y", "x"), account("a", "b"), account("b", "c"), account("c", "a")}, 2, api.ErrCycle},
		{[]api.Account{account("r", ""), account("x", "x")}, 1, api.ErrCycle},
		{[]api.Account{account("y", "x"), account("x", "x")}, 1, api.ErrCycle},
		{[]api.Account{account("a", "b"), account("b", "z")}, 1, api.ErrRef},
		{[]api.Account{account("c", "b"), account("b", "a"), account("a", "")}, 0, api.OK},
	} {
		if _, at, e := chart.New(c.l...); at != c.at || e != c.e {
			t.Errorf("New(%v) = %d, %d, want %d, %d", c.l, at, e, c.at, c.e)
		}
	}
	long := chain(400)
	build(t, long...)
	long[0].Parent = "a399"
	if _, at, e := chart.New(long...); at != 0 || e != api.ErrCycle {
		t.Errorf("New of a cycle of 400 accounts = %d, %d", at, e)
	}
	long[0].Parent = "a1"
	slices.Reverse(long)
	if _, at, e := chart.New(long...); at != 398 || e != api.ErrCycle {
		t.Errorf("New of 398 accounts below a cycle of 2 = %d, %d", at, e)
	}
}

// P10.1
func TestNewSizes(t *testing.T) {
	if c := build(t); c.Len() != 0 || len(c.All()) != 0 || len(c.Posts("")) != 0 || len(c.Kids("")) != 0 {
		t.Error("the empty chart has accounts")
	}
	if c := build(t, chain(400)...); c.Len() != 400 || len(c.Path("a399")) != 400 {
		t.Error("the chart of 400 accounts lacks some")
	}
	if c, at, e := chart.New(chain(401)...); c != nil || at != 0 || e != api.ErrMany {
		t.Errorf("New of 401 accounts = %v, %d, %d", c, at, e)
	}
	if c, at, e := chart.New(make([]api.Account, 401)...); c != nil || at != 0 || e != api.ErrMany {
		t.Errorf("New of 401 wrong accounts = %v, %d, %d", c, at, e)
	}
}

// path returns the codes from a root to an account, as the chapter describes them.
func path(l []api.Account, code string) []string {
	for _, a := range l {
		if a.Code == code && code != "" {
			return append(path(l, a.Parent), code)
		}
	}
	return nil
}

// P10.2
func TestQueries(t *testing.T) {
	r := rand.New(rand.NewSource(102))
	charts := 0
	for charts < 1500 {
		l := randomAccounts(r)
		if _, e := expected(l); e != api.OK {
			continue
		}
		charts++
		c := build(t, l...)
		sort.Slice(l, func(i, j int) bool { return l[i].Code < l[j].Code })
		checkQueries(t, c, l)
		if t.Failed() {
			t.Fatalf("for the accounts %+v", l)
		}
	}
}

// checkQueries compares the queries of a chart with its accounts in increasing order.
func checkQueries(t *testing.T, c *chart.Chart, l []api.Account) {
	if c.Len() != len(l) || !sameAccounts(c.All(), l) {
		t.Errorf("Len = %d, All = %v", c.Len(), c.All())
	}
	for _, code := range []string{"", "a", "b", "c", "d", "e", "f", "g", "h", "i", "z", "A", "aa", "?"} {
		i := slices.IndexFunc(l, func(a api.Account) bool { return a.Code == code })
		var want api.Account
		if i >= 0 {
			want = l[i]
		}
		if a, ok := c.Get(code); !sameAccounts([]api.Account{a}, []api.Account{want}) || ok != (i >= 0) {
			t.Errorf("Get(%q) = %v, %v", code, a, ok)
		}
		if p := c.Path(code); !slices.Equal(p, path(l, code)) {
			t.Errorf("Path(%q) = %v", code, p)
		}
		var kids, posts []string
		for _, a := range l {
			under := slices.Contains(path(l, a.Code), code) || code == ""
			if a.Parent == code {
				kids = append(kids, a.Code)
			}
			if under && a.Post {
				posts = append(posts, a.Code)
			}
			if c.Under(a.Code, code) != under {
				t.Errorf("Under(%q, %q) is %v", a.Code, code, !under)
			}
		}
		if k := c.Kids(code); !slices.Equal(k, kids) {
			t.Errorf("Kids(%q) = %v, want %v", code, k, kids)
		}
		if p := c.Posts(code); !slices.Equal(p, posts) {
			t.Errorf("Posts(%q) = %v, want %v", code, p, posts)
		}
		if i < 0 && (c.Under(code, "") || c.Under(code, "a") || c.Under(code, code)) {
			t.Errorf("%q is under an account", code)
		}
	}
}

// sameAccounts reports whether two lists of accounts are equal.
func sameAccounts(a, b []api.Account) bool {
	return slices.EqualFunc(a, b, func(x, y api.Account) bool {
		equalNeeds := slices.Equal(x.Need, y.Need)
		x.Need, y.Need = nil, nil
		return equalNeeds && reflect.DeepEqual(x, y)
	})
}

// P10.2
func TestQueriesOfTheExample(t *testing.T) {
	c := build(t, example()...)
	for _, x := range []struct {
		name      string
		got, want []string
	}{
		{"Kids(1)", c.Kids("1"), []string{"11", "12"}}, {"Path(12)", c.Path("12"), []string{"1", "12"}}, {"Posts()", c.Posts(""), []string{"11", "12"}},
		{"Kids()", c.Kids(""), []string{"1"}}, {"Kids(11)", c.Kids("11"), nil}, {"Path(1)", c.Path("1"), []string{"1"}}, {"Posts(1)", c.Posts("1"), []string{"11", "12"}}, {"Posts(12)", c.Posts("12"), []string{"12"}}, {"Posts(9)", c.Posts("9"), nil}, {"Path(9)", c.Path("9"), nil}, {"Kids(9)", c.Kids("9"), nil}, {"Path()", c.Path(""), nil},
	} {
		if !slices.Equal(x.got, x.want) {
			t.Errorf("%s = %v, want %v", x.name, x.got, x.want)
		}
	}
	if !c.Under("12", "1") || !c.Under("12", "12") || c.Under("1", "12") || c.Under("12", "11") || !c.Under("12", "") || c.Under("9", "") || c.Under("", "") || c.Under("9", "9") || c.Under("", "1") {
		t.Error("Under is wrong")
	}
}

// P10.2
func TestNilChart(t *testing.T) {
	var c *chart.Chart
	if a, ok := c.Get("1"); ok || !reflect.DeepEqual(a, api.Account{}) {
		t.Errorf("Get = %v, %v", a, ok)
	}
	if c.Len() != 0 || len(c.All()) != 0 || len(c.Path("1")) != 0 || len(c.Kids("")) != 0 || len(c.Kids("1")) != 0 || len(c.Posts("")) != 0 || len(c.Posts("1")) != 0 {
		t.Error("a nil chart has accounts")
	}
	if c.Under("1", "") || c.Under("1", "1") || c.Under("", "") {
		t.Error("an account is under one of a nil chart")
	}
	// P10.3
	if e := c.Allow(api.Line{Account: "1"}); e != api.ErrNone {
		t.Errorf("Allow = %d", e)
	}
}

// P10.2: what a caller does to arguments and results does not reach the chart.
func TestChartKeepsItsMemory(t *testing.T) {
	l := example()
	whole := append([]string{}, "dept", "more")
	l[1].Need = whole[:1]
	kept := example()
	c := build(t, l...)
	if !sameAccounts(l, kept) || whole[1] != "more" {
		t.Errorf("New changed its arguments to %v", l)
	}
	l[1].Need[0] = "x"
	l[0].Code = "9"
	want := []api.Account{kept[0], kept[2], kept[1]}
	for range 2 {
		all := c.All()
		if !sameAccounts(all, want) {
			t.Errorf("All = %v", all)
		}
		all[2].Need[0] = "y"
		all[0].Code = "y"
		a, _ := c.Get("12")
		if !slices.Equal(a.Need, []string{"dept"}) {
			t.Errorf("Get = %v", a)
		}
		a.Need[0] = "z"
		for _, codes := range [][]string{c.Kids("1"), c.Posts(""), c.Path("12"), c.Kids("")} {
			codes[0] = "changed"
			_ = append(codes[:1], "changed")
		}
	}
	if e := c.Allow(api.Line{Account: "12", Tags: []api.Tag{{Name: "dept", Value: "x"}}}); e != api.OK {
		t.Errorf("Allow = %d", e)
	}
}

// P10.3
func TestAllow(t *testing.T) {
	c := build(t, append(example(),
		api.Account{Code: "2", Kind: api.Liability, Post: true, Inter: true},
		api.Account{Code: "3", Kind: api.Equity, Post: true, Inter: true, Cur: "EUR", Need: []string{"a", "b"}})...)
	tag := func(names ...string) (l []api.Tag) {
		for _, name := range names {
			l = append(l, api.Tag{Name: name, Value: "v"})
		}
		return l
	}
	for _, x := range []struct {
		name string
		l    api.Line
		e    api.Errno
	}{
		{"another currency", api.Line{Account: "11", Cur: "EUR"}, api.ErrCur},
		{"no currency", api.Line{Account: "11"}, api.ErrCur},
		{"small letters", api.Line{Account: "11", Cur: "usd"}, api.ErrCur},
		{"the currency", api.Line{Account: "11", Cur: "USD"}, api.OK},
		{"no tags", api.Line{Account: "12"}, api.ErrTag},
		{"the tag", api.Line{Account: "12", Tags: tag("dept")}, api.OK},
		{"any currency", api.Line{Account: "12", Cur: "JPY", Tags: tag("dept")}, api.OK},
		{"another tag", api.Line{Account: "12", Tags: tag("proj")}, api.ErrTag},
		{"more tags", api.Line{Account: "12", Tags: tag("proj", "dept", "a", "b", "c", "d", "e", "f")}, api.OK},
		{"a tag without a value", api.Line{Account: "12", Tags: []api.Tag{{Name: "dept"}}}, api.OK},
		{"an account that cannot be posted to", api.Line{Account: "1"}, api.ErrAccount},
		{"an unknown account", api.Line{Account: "9"}, api.ErrAccount},
		{"no account", api.Line{}, api.ErrAccount},
		{"a missing partner", api.Line{Account: "2"}, api.ErrParty},
		{"a partner", api.Line{Account: "2", Partner: "b"}, api.OK},
		{"a partner that is not a code", api.Line{Account: "2", Partner: "?"}, api.OK},
		{"a partner that is not allowed", api.Line{Account: "11", Cur: "USD", Partner: "b"}, api.ErrParty},
		{"a party only", api.Line{Account: "2", Party: "p"}, api.ErrParty},
		{"a party without a partner", api.Line{Account: "11", Cur: "USD", Party: "p", Amount: math.MinInt}, api.OK},
		{"everything wrong", api.Line{Account: "3", Cur: "USD"}, api.ErrCur},
		{"a wrong partner and tag", api.Line{Account: "3", Cur: "EUR"}, api.ErrParty},
		{"a wrong tag", api.Line{Account: "3", Cur: "EUR", Partner: "b", Tags: tag("b")}, api.ErrTag},
		{"the second tag missing", api.Line{Account: "3", Cur: "EUR", Partner: "b", Tags: tag("a")}, api.ErrTag},
		{"all rules kept", api.Line{Account: "3", Cur: "EUR", Partner: "b", Tags: tag("a", "b")}, api.OK},
		{"tags in another order", api.Line{Account: "3", Cur: "EUR", Partner: "b", Tags: tag("b", "a", "a")}, api.OK},
		{"an unknown account with wrong parts", api.Line{Account: strings.Repeat("x", 50), Cur: "x", Partner: "b"}, api.ErrAccount},
	} {
		if e := c.Allow(x.l); e != x.e {
			t.Errorf("%s: Allow(%v) = %d, want %d", x.name, x.l, e, x.e)
		}
	}
}
