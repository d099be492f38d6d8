package entry_test

import (
	"math"
	"math/big"
	"math/rand"
	"reflect"
	"slices"
	"sort"
	"strings"
	"testing"

	"accounting/api"
	"accounting/entry"
)

const most, least, limit, sumLimit = math.MaxInt, math.MinInt, api.MaxAmount, api.MaxSum

// line returns a line with these amounts.
func line(account, cur string, amount, base int) api.Line {
	return api.Line{Account: account, Cur: cur, Amount: amount, Base: base}
}

// full returns a line in which every field is set.
func full() api.Line {
	return api.Line{Account: "12", Cur: "EUR", Amount: 5, Base: 7, Partner: "b", Party: "p", Tags: []api.Tag{{Name: "a", Value: "1"}, {Name: "b", Value: "2"}}}
}

// example returns the entry of the chapter's examples.
func example() api.Entry {
	return api.Entry{No: 3, Entity: "a", Book: 10, Value: 9, Kind: api.Normal, Ref: "r 1", By: "ann", Lines: []api.Line{line("12", "EUR", 500, 500), line("40", "EUR", -500, -500)}}
}

// copied returns an entry that shares no memory with x.
func copied(x api.Entry) api.Entry {
	x.Lines = slices.Clone(x.Lines)
	for i := range x.Lines {
		x.Lines[i].Tags = slices.Clone(x.Lines[i].Tags)
	}
	return x
}

// P12.1
func TestLine(t *testing.T) {
	seven := []api.Tag{{Name: "a", Value: "1"}, {Name: "b", Value: "1"}, {Name: "c", Value: "1"}, {Name: "d", Value: "1"}, {Name: "e", Value: "1"}, {Name: "f", Value: "1"}, {Name: "g", Value: "1"}}
	for _, c := range []struct {
		name   string
		change func(l *api.Line)
		e      api.Errno
	}{
		{"nothing", func(l *api.Line) {}, api.OK},
		{"no account", func(l *api.Line) { l.Account = "" }, api.ErrName},
		{"a wrong account", func(l *api.Line) { l.Account = "1 2" }, api.ErrName},
		{"a long account", func(l *api.Line) { l.Account = "abcdefghijklm" }, api.ErrName},
		{"an account of 12 bytes", func(l *api.Line) { l.Account = "abcdefghijkl" }, api.OK},
		{"no partner", func(l *api.Line) { l.Partner = "" }, api.OK},
		{"a wrong partner", func(l *api.Line) { l.Partner = "?" }, api.ErrName},
		{"no party", func(l *api.Line) { l.Party = "" }, api.OK},
		{"a wrong party", func(l *api.Line) { l.Party = "a-b" }, api.ErrName},
		{"no currency", func(l *api.Line) { l.Cur = "" }, api.ErrCur},
		{"a wrong currency", func(l *api.Line) { l.Cur = "eur" }, api.ErrCur},
		{"the largest amount", func(l *api.Line) { l.Amount = limit }, api.OK},
		{"the least amount", func(l *api.Line) { l.Amount = -limit }, api.OK},
		{"a larger amount", func(l *api.Line) { l.Amount = limit + 1 }, api.ErrOver},
		{"a lesser amount", func(l *api.Line) { l.Amount = -limit - 1 }, api.ErrOver},
		{"the least int", func(l *api.Line) { l.Amount = least }, api.ErrOver},
		{"the greatest int", func(l *api.Line) { l.Amount = most }, api.ErrOver},
		{"the largest base", func(l *api.Line) { l.Base = limit }, api.OK},
		{"the least base", func(l *api.Line) { l.Base = -limit }, api.OK},
		{"a larger base", func(l *api.Line) { l.Base = limit + 1 }, api.ErrOver},
		{"a lesser base", func(l *api.Line) { l.Base = -limit - 1 }, api.ErrOver},
		{"the least int as base", func(l *api.Line) { l.Base = least }, api.ErrOver},
		{"no amount", func(l *api.Line) { l.Amount = 0 }, api.OK},
		{"no base", func(l *api.Line) { l.Base = 0 }, api.OK},
		{"neither", func(l *api.Line) { l.Amount, l.Base = 0, 0 }, api.ErrArg},
		{"no tags", func(l *api.Line) { l.Tags = nil }, api.OK},
		{"wrong tags", func(l *api.Line) { l.Tags = []api.Tag{{Name: "b", Value: "1"}, {Name: "a", Value: "1"}} }, api.ErrTag},
		{"a wrong tag", func(l *api.Line) { l.Tags = []api.Tag{{Name: "b"}} }, api.ErrTag},
		{"six tags", func(l *api.Line) { l.Tags = seven[:6] }, api.OK},
		{"seven tags", func(l *api.Line) { l.Tags = seven }, api.ErrTag},
	} {
		l := full()
		c.change(&l)
		if e := entry.Line(l); e != c.e {
			t.Errorf("Line with %s = %d, want %d", c.name, e, c.e)
		}
	}
}

// P12.1: each change removes the first error that is left.
func TestLineOrderOfErrors(t *testing.T) {
	l := api.Line{Partner: "?", Party: "?", Amount: limit + 1, Base: least, Tags: []api.Tag{{}}}
	for i, step := range []struct {
		change func()
		e      api.Errno
	}{
		{func() {}, api.ErrName}, {func() { l.Account = "a" }, api.ErrName}, {func() { l.Partner = "b" }, api.ErrName}, {func() { l.Party = "c" }, api.ErrCur}, {func() { l.Cur = "EUR" }, api.ErrOver}, {func() { l.Amount = 0 }, api.ErrOver}, {func() { l.Base = 0 }, api.ErrArg}, {func() { l.Base = 1 }, api.ErrTag}, {func() { l.Tags = nil }, api.OK},
	} {
		step.change()
		if e := entry.Line(l); e != step.e {
			t.Errorf("step %d: %d, want %d", i, e, step.e)
		}
	}
}

// pairs returns n lines that balance if n is even.
func pairs(n int) []api.Line {
	var l []api.Line
	for i := range n {
		l = append(l, line("12", "EUR", 7-14*(i%2), 9-18*(i%2)))
	}
	return l
}

// P12.1
func TestCheck(t *testing.T) {
	for _, c := range []struct {
		name   string
		change func(x *api.Entry)
		at     int
		e      api.Errno
	}{
		{"nothing", func(x *api.Entry) {}, -1, api.OK},
		{"the number 0", func(x *api.Entry) { x.No = 0 }, -1, api.OK},
		{"the last number", func(x *api.Entry) { x.No, x.Reverses = 4000, 4000 }, -1, api.OK},
		{"a negative number", func(x *api.Entry) { x.No = -1 }, -1, api.ErrRange},
		{"the number 4001", func(x *api.Entry) { x.No = 4001 }, -1, api.ErrRange},
		{"the least number", func(x *api.Entry) { x.No = least }, -1, api.ErrRange},
		{"a negative reference", func(x *api.Entry) { x.Reverses = -1 }, -1, api.ErrRange},
		{"the reference 4001", func(x *api.Entry) { x.Reverses = 4001 }, -1, api.ErrRange},
		{"the greatest reference", func(x *api.Entry) { x.Reverses = most }, -1, api.ErrRange},
		{"no entity", func(x *api.Entry) { x.Entity = "" }, -1, api.ErrName},
		{"a wrong user", func(x *api.Entry) { x.By = "a b" }, -1, api.ErrName},
		{"no user", func(x *api.Entry) { x.By = "" }, -1, api.ErrName},
		{"the last day", func(x *api.Entry) { x.Book, x.Value = api.MaxDay, api.MaxDay }, -1, api.OK},
		{"the first day", func(x *api.Entry) { x.Book, x.Value = 0, 0 }, -1, api.OK},
		{"the book -1", func(x *api.Entry) { x.Book = -1 }, -1, api.ErrDate},
		{"a late book", func(x *api.Entry) { x.Book = api.MaxDay + 1 }, -1, api.ErrDate},
		{"the value -1", func(x *api.Entry) { x.Value = -1 }, -1, api.ErrDate},
		{"a late value", func(x *api.Entry) { x.Value = api.MaxDay + 1 }, -1, api.ErrDate},
		{"the kind 0", func(x *api.Entry) { x.Kind = 0 }, -1, api.ErrKind},
		{"the kind 7", func(x *api.Entry) { x.Kind = api.Recost }, -1, api.OK},
		{"the kind 8", func(x *api.Entry) { x.Kind = 8 }, -1, api.ErrKind},
		{"the least kind", func(x *api.Entry) { x.Kind = least }, -1, api.ErrKind},
		{"no reference", func(x *api.Entry) { x.Ref = "" }, -1, api.OK},
		{"a reference of 60 bytes", func(x *api.Entry) { x.Ref = strings.Repeat("~", 60) }, -1, api.OK},
		{"a reference of 61 bytes", func(x *api.Entry) { x.Ref = strings.Repeat("a", 61) }, -1, api.ErrForm},
		{"a reference that is not plain", func(x *api.Entry) { x.Ref = "ä" }, -1, api.ErrForm},
		{"no lines", func(x *api.Entry) { x.Lines = nil }, -1, api.ErrArg},
		{"one line", func(x *api.Entry) { x.Lines = x.Lines[:1] }, -1, api.ErrArg},
		{"100 lines", func(x *api.Entry) { x.Lines = pairs(100) }, -1, api.OK},
		{"102 lines", func(x *api.Entry) { x.Lines = pairs(102) }, -1, api.ErrMany},
		{"101 zero lines", func(x *api.Entry) { x.Lines = make([]api.Line, 101) }, -1, api.ErrMany},
		{"a wrong first line", func(x *api.Entry) { x.Lines[0].Cur = "x" }, 0, api.ErrCur},
		{"a wrong second line", func(x *api.Entry) { x.Lines[1].Tags = []api.Tag{{}} }, 1, api.ErrTag},
		{"two wrong lines", func(x *api.Entry) { x.Lines[0].Tags, x.Lines[1].Account = []api.Tag{{}}, "" }, 0, api.ErrTag},
		{"a wrong last line", func(x *api.Entry) { x.Lines = pairs(100); x.Lines[99].Party = "?" }, 99, api.ErrName},
		{"another base", func(x *api.Entry) { x.Lines[1].Base = -499 }, -1, api.ErrBalance},
		{"another amount", func(x *api.Entry) { x.Lines[1].Amount = -499 }, -1, api.ErrBalance},
		{"two currencies", func(x *api.Entry) { x.Lines[1].Cur = "USD" }, -1, api.ErrBalance},
		{"two currencies that do not balance in the base currency", func(x *api.Entry) {
			x.Lines = []api.Line{line("1", "EUR", 5, 5), line("2", "EUR", -5, -4), line("1", "USD", 5, 5), line("2", "USD", -5, -6)}
		}, -1, api.ErrBalance},
		{"two currencies that balance", func(x *api.Entry) {
			x.Lines = []api.Line{line("1", "EUR", 5, 5), line("1", "USD", 5, 4), line("2", "EUR", -5, -5), line("2", "USD", -5, -4)}
		}, -1, api.OK},
		{"lines without amounts", func(x *api.Entry) { x.Lines[0].Amount, x.Lines[1].Amount = 0, 0 }, -1, api.OK},
	} {
		x := copied(example())
		c.change(&x)
		kept := copied(x)
		if at, e := entry.Check(x); at != c.at || e != c.e {
			t.Errorf("Check with %s = %d, %d, want %d, %d", c.name, at, e, c.at, c.e)
		}
		if !reflect.DeepEqual(x, kept) {
			t.Errorf("Check changed %v to %v", kept, x)
		}
	}
}

// P12.1: each change removes the first error that is left.
func TestCheckOrderOfErrors(t *testing.T) {
	x := api.Entry{No: -1, Reverses: 5000, Book: -1, Value: -1, Ref: "\n", Lines: []api.Line{{}}}
	for i, step := range []struct {
		change func()
		at     int
		e      api.Errno
	}{
		{func() {}, -1, api.ErrRange},
		{func() { x.No = 1 }, -1, api.ErrRange},
		{func() { x.Reverses = 0 }, -1, api.ErrName},
		{func() { x.Entity = "a" }, -1, api.ErrName},
		{func() { x.By = "b" }, -1, api.ErrDate},
		{func() { x.Book = 0 }, -1, api.ErrDate},
		{func() { x.Value = 0 }, -1, api.ErrKind},
		{func() { x.Kind = api.Opening }, -1, api.ErrForm},
		{func() { x.Ref = "" }, -1, api.ErrArg},
		{func() { x.Lines = make([]api.Line, 101) }, -1, api.ErrMany},
		{func() { x.Lines = []api.Line{line("1", "EUR", 1, 1), {}} }, 1, api.ErrName},
		{func() { x.Lines[1] = line("1", "EUR", 1, 1) }, -1, api.ErrBalance},
		{func() { x.Lines[1] = line("1", "EUR", -1, -1) }, -1, api.OK},
	} {
		step.change()
		if at, e := entry.Check(x); at != step.at || e != step.e {
			t.Errorf("step %d: %d, %d, want %d, %d", i, at, e, step.at, step.e)
		}
	}
}

// randomLines returns lines with few different fields and amounts that are small, cancel out, or are close to a limit.
func randomLines(r *rand.Rand) []api.Line {
	sizes := []int{0, 1, 2, 5, limit, limit - 1, limit / 2, sumLimit, sumLimit - 1, sumLimit / 2, most, least, 1 << 62, -1 << 62}
	choice := []int{4, 7, 10, len(sizes)}[r.Intn(4)]
	pick := func() int { return sizes[r.Intn(choice)] * (1 - 2*r.Intn(2)) }
	tags := [][]api.Tag{nil, {}, {{Name: "a", Value: "1"}}, {{Name: "a", Value: "2"}}, {{Name: "a", Value: "1"}, {Name: "b"}}, {{Name: "a"}, {Name: "1"}}, {{Name: "", Value: "a"}}, {{Name: "a1:b", Value: ""}}, {{Name: "a", Value: "b"}}, {{Name: "ab", Value: ""}}}
	l := make([]api.Line, r.Intn(12))
	for i := range l {
		l[i] = line([]string{"1", "2"}[r.Intn(2)], []string{"EUR", "USD", "AAA", "?", ""}[r.Intn(5)], pick(), pick())
		l[i].Partner, l[i].Party = []string{"", "p"}[r.Intn(8)/7], []string{"", "p"}[r.Intn(8)/7]
		if r.Intn(3) == 0 {
			l[i].Tags = tags[r.Intn(len(tags))]
		}
		if i > 0 && r.Intn(3) == 0 {
			l[i] = l[r.Intn(i)]
			l[i].Amount, l[i].Base = -l[i].Amount, -l[i].Base
		}
	}
	return l
}

// bigSums holds two exact sums.
type bigSums struct{ amount, base *big.Int }

// add adds the amounts of a line.
func (s *bigSums) add(l api.Line) {
	if s.amount == nil {
		s.amount, s.base = new(big.Int), new(big.Int)
	}
	s.amount.Add(s.amount, big.NewInt(int64(l.Amount)))
	s.base.Add(s.base, big.NewInt(int64(l.Base)))
}

// within reports whether the absolute values of both sums are at most n.
func (s *bigSums) within(n int64) bool {
	return s.amount.CmpAbs(big.NewInt(n)) <= 0 && s.base.CmpAbs(big.NewInt(n)) <= 0
}

// sumsOf returns the results of Sums and Balanced, as the chapter describes them.
func sumsOf(l []api.Line) (s []api.Sum, e api.Errno, balanced bool) {
	sums := map[string]*bigSums{}
	for _, x := range l {
		if sums[x.Cur] == nil {
			sums[x.Cur] = &bigSums{}
		}
		sums[x.Cur].add(x)
	}
	balanced = true
	for cur, x := range sums {
		balanced = balanced && x.within(0)
		if !x.within(sumLimit) {
			e = api.ErrOver
		}
		s = append(s, api.Sum{Cur: cur, Amount: int(x.amount.Int64()), Base: int(x.base.Int64())})
	}
	sort.Slice(s, func(i, j int) bool { return s[i].Cur < s[j].Cur })
	if e != api.OK {
		s = nil
	}
	return s, e, balanced
}

// volumeOf returns the result of Volume, as the chapter describes it.
func volumeOf(l []api.Line) (int, api.Errno) {
	n := new(big.Int)
	for _, x := range l {
		if x.Base > 0 {
			n.Add(n, big.NewInt(int64(x.Base)))
		}
	}
	if n.Cmp(big.NewInt(sumLimit)) > 0 {
		return 0, api.ErrOver
	}
	return int(n.Int64()), api.OK
}

// P12.2
func TestSums(t *testing.T) {
	r := rand.New(rand.NewSource(122))
	var balances, overs, volumes int
	for range 60000 {
		l := randomLines(r)
		want, wantE, balanced := sumsOf(l)
		if s, e := entry.Sums(l); !slices.Equal(s, want) || e != wantE {
			t.Fatalf("Sums(%v) = %v, %d, want %v, %d", l, s, e, want, wantE)
		}
		if entry.Balanced(l) != balanced {
			t.Fatalf("Balanced(%v) is %v", l, !balanced)
		}
		volume, volumeE := volumeOf(l)
		if n, e := entry.Volume(l); n != volume || e != volumeE {
			t.Fatalf("Volume(%v) = %d, %d, want %d, %d", l, n, e, volume, volumeE)
		}
		if balanced && len(l) > 1 {
			balances++
		}
		if wantE == api.ErrOver {
			overs++
		}
		if volumeE == api.ErrOver {
			volumes++
		}
	}
	if balances < 100 || overs < 100 || volumes < 100 {
		t.Errorf("%d lists balance, %d sums and %d volumes are too large", balances, overs, volumes)
	}
}

// P12.2
func TestSumsAtTheLimits(t *testing.T) {
	for _, c := range []struct {
		l        []api.Line
		s        []api.Sum
		e        api.Errno
		balanced bool
		volume   int
		volumeE  api.Errno
	}{
		{nil, nil, api.OK, true, 0, api.OK},
		{[]api.Line{line("12", "EUR", 500, 500), line("40", "EUR", -500, -499)}, []api.Sum{{Cur: "EUR", Base: 1}}, api.OK, false, 500, api.OK},
		{[]api.Line{line("12", "EUR", 500, 500), line("40", "EUR", -500, -500)}, []api.Sum{{Cur: "EUR"}}, api.OK, true, 500, api.OK},
		{[]api.Line{line("", "", 0, 0)}, []api.Sum{{}}, api.OK, true, 0, api.OK},
		{[]api.Line{line("", "USD", 1, -1), line("", "EUR", 2, 3), line("", "USD", 4, 5)}, []api.Sum{{Cur: "EUR", Amount: 2, Base: 3}, {Cur: "USD", Amount: 5, Base: 4}}, api.OK, false, 8, api.OK},
		{[]api.Line{line("", "EUR", sumLimit, -sumLimit)}, []api.Sum{{Cur: "EUR", Amount: sumLimit, Base: -sumLimit}}, api.OK, false, 0, api.OK},
		{[]api.Line{line("", "EUR", -sumLimit, sumLimit)}, []api.Sum{{Cur: "EUR", Amount: -sumLimit, Base: sumLimit}}, api.OK, false, sumLimit, api.OK},
		{[]api.Line{line("", "EUR", sumLimit+1, 0)}, nil, api.ErrOver, false, 0, api.OK},
		{[]api.Line{line("", "EUR", -sumLimit-1, 0)}, nil, api.ErrOver, false, 0, api.OK},
		{[]api.Line{line("", "EUR", 0, sumLimit+1)}, nil, api.ErrOver, false, 0, api.ErrOver},
		{[]api.Line{line("", "EUR", 0, -sumLimit-1)}, nil, api.ErrOver, false, 0, api.OK},
		{[]api.Line{line("", "EUR", least, least)}, nil, api.ErrOver, false, 0, api.OK},
		{[]api.Line{line("", "EUR", 1, 1), line("", "USD", most, 0)}, nil, api.ErrOver, false, 1, api.OK},
		// These sums wrap around to 0, or to what is less than the limit.
		{[]api.Line{line("", "EUR", least, 0), line("", "EUR", least, 0)}, nil, api.ErrOver, false, 0, api.OK},
		{[]api.Line{line("", "EUR", 0, most), line("", "EUR", 0, most), line("", "EUR", 0, 2)}, nil, api.ErrOver, false, 0, api.ErrOver},
		{[]api.Line{line("", "EUR", 0, most), line("", "EUR", 0, most), line("", "EUR", 0, 7)}, nil, api.ErrOver, false, 0, api.ErrOver},
		// Partial sums do not matter.
		{[]api.Line{line("", "EUR", most, 0), line("", "EUR", most, 0), line("", "EUR", -most, 0), line("", "EUR", -most, 0)}, []api.Sum{{Cur: "EUR"}}, api.OK, true, 0, api.OK},
		{[]api.Line{line("", "EUR", 3, sumLimit), line("", "EUR", -3, 1), line("", "EUR", 0, -1)}, []api.Sum{{Cur: "EUR", Base: sumLimit}}, api.OK, false, 0, api.ErrOver},
	} {
		s, e := entry.Sums(c.l)
		balanced := entry.Balanced(c.l)
		volume, volumeE := entry.Volume(c.l)
		if !slices.Equal(s, c.s) || e != c.e || balanced != c.balanced || volume != c.volume || volumeE != c.volumeE {
			t.Errorf("of %v: Sums = %v, %d, Balanced = %v, Volume = %d, %d", c.l, s, e, balanced, volume, volumeE)
		}
	}
}

// merged returns the result of Merge, as the chapter describes it.
func merged(l []api.Line) ([]api.Line, api.Errno) {
	var m []api.Line
	done := make([]bool, len(l))
	for i, x := range l {
		if done[i] {
			continue
		}
		s := bigSums{}
		for j := i; j < len(l); j++ {
			y := l[j]
			if x.Account == y.Account && x.Cur == y.Cur && x.Partner == y.Partner && x.Party == y.Party && slices.Equal(x.Tags, y.Tags) {
				s.add(y)
				done[j] = true
			}
		}
		if !s.within(limit) {
			return nil, api.ErrOver
		}
		x.Amount, x.Base = int(s.amount.Int64()), int(s.base.Int64())
		if x.Amount != 0 || x.Base != 0 {
			m = append(m, x)
		}
	}
	return m, api.OK
}

// sameLines reports whether two lists of lines are equal; nil and empty lists are.
func sameLines(a, b []api.Line) bool {
	return slices.EqualFunc(a, b, func(x, y api.Line) bool {
		equal := slices.Equal(x.Tags, y.Tags)
		x.Tags, y.Tags = nil, nil
		return equal && reflect.DeepEqual(x, y)
	})
}

// P12.3
func TestMerge(t *testing.T) {
	r := rand.New(rand.NewSource(123))
	var shorter, overs int
	for range 60000 {
		l := randomLines(r)
		kept := copied(api.Entry{Lines: l}).Lines
		want, wantE := merged(l)
		m, e := entry.Merge(l)
		if !sameLines(m, want) || e != wantE {
			t.Fatalf("Merge(%v) = %v, %d, want %v, %d", l, m, e, want, wantE)
		}
		if len(m) < len(l) && e == api.OK {
			shorter++
		}
		if e == api.ErrOver {
			overs++
		}
		for i := range m {
			clear(m[i].Tags)
			m[i].Account = "changed"
		}
		if !reflect.DeepEqual(l, kept) {
			t.Fatalf("Merge changed %v to %v", kept, l)
		}
	}
	if shorter < 100 || overs < 100 {
		t.Errorf("%d lists became shorter, and %d sums are too large", shorter, overs)
	}
}

// P12.3
func TestMergeExamples(t *testing.T) {
	tagged := func(names ...string) api.Line {
		l := line("1", "EUR", 1, 2)
		for i := 0; i < len(names); i += 2 {
			l.Tags = append(l.Tags, api.Tag{Name: names[i], Value: names[i+1]})
		}
		return l
	}
	apart := []api.Line{line("1", "EUR", 1, 2), line("2", "EUR", 1, 2), line("1", "USD", 1, 2), {Account: "1", Cur: "EUR", Amount: 1, Partner: "p"}, {Account: "1", Cur: "EUR", Amount: 1, Party: "p"}, tagged("a", "b"), tagged("a", "c"), tagged("b", "b"), tagged("a", "b", "c", "d"), tagged("c", "d", "a", "b"), tagged("ab", ""), tagged("", "ab"), tagged("", ""), tagged("a", "=b"), tagged("a=", "b"), tagged("a", "b,c=d"), tagged("a", "b", "a", "b"), tagged("1:a1:b", ""), tagged("", "", "", ""), tagged("\xff", "\x00"), tagged("\x00", "\xff")}
	for _, c := range []struct {
		l, m []api.Line
		e    api.Errno
	}{
		{[]api.Line{line("12", "EUR", 500, 500), line("40", "EUR", -500, -500), line("12", "EUR", 500, 500)}, []api.Line{line("12", "EUR", 1000, 1000), line("40", "EUR", -500, -500)}, api.OK},
		{[]api.Line{line("12", "EUR", 5, 5), line("40", "EUR", 1, 0), line("12", "EUR", -5, -5)}, []api.Line{line("40", "EUR", 1, 0)}, api.OK},
		{[]api.Line{line("12", "EUR", 5, 5), line("40", "EUR", 1, 0), line("12", "EUR", -5, -4)}, []api.Line{line("12", "EUR", 0, 1), line("40", "EUR", 1, 0)}, api.OK},
		{[]api.Line{line("12", "EUR", 5, 5), line("12", "EUR", -4, -5)}, []api.Line{line("12", "EUR", 1, 0)}, api.OK},
		{[]api.Line{line("12", "EUR", 0, 0)}, nil, api.OK},
		{nil, nil, api.OK},
		{apart, apart, api.OK},
		{[]api.Line{{Account: "1", Tags: []api.Tag{}, Amount: 1}, {Account: "1", Amount: 2}}, []api.Line{{Account: "1", Amount: 3}}, api.OK},
		{[]api.Line{line("1", "EUR", limit, -limit)}, []api.Line{line("1", "EUR", limit, -limit)}, api.OK},
		{[]api.Line{line("1", "EUR", limit, 0), line("1", "EUR", 1, 0)}, nil, api.ErrOver},
		{[]api.Line{line("1", "EUR", -limit, 0), line("1", "EUR", -1, 0)}, nil, api.ErrOver},
		{[]api.Line{line("1", "EUR", 0, limit), line("1", "EUR", 0, 1)}, nil, api.ErrOver},
		{[]api.Line{line("1", "EUR", 0, -limit-1)}, nil, api.ErrOver},
		{[]api.Line{line("2", "EUR", 1, 1), line("1", "EUR", limit, 0), line("1", "EUR", 2, 0), line("1", "EUR", -2, 0)}, []api.Line{line("2", "EUR", 1, 1), line("1", "EUR", limit, 0)}, api.OK},
		{[]api.Line{line("1", "EUR", most, least), line("1", "EUR", most, least), line("1", "EUR", -most, most), line("1", "EUR", -most, most)}, []api.Line{line("1", "EUR", 0, -2)}, api.OK},
		{[]api.Line{line("1", "EUR", least, 0), line("1", "EUR", least, 0)}, nil, api.ErrOver},
		{[]api.Line{line("1", "EUR", least, least)}, nil, api.ErrOver},
	} {
		if m, e := entry.Merge(c.l); !sameLines(m, c.m) || e != c.e {
			t.Errorf("Merge(%v) = %v, %d, want %v, %d", c.l, m, e, c.m, c.e)
		}
	}
}

// P12.4
func TestReverse(t *testing.T) {
	x := example()
	y, e := entry.Reverse(x, 20, 19, "bob")
	want := api.Entry{Entity: "a", Book: 20, Value: 19, Kind: api.Reversal, Ref: "r 1", By: "bob", Reverses: 3, Lines: []api.Line{line("12", "EUR", -500, -500), line("40", "EUR", 500, 500)}}
	if e != api.OK || !entry.Same(y, want) || !sameLines(y.Lines, want.Lines) {
		t.Errorf("Reverse of the example = %v, %d", y, e)
	}
	if !reflect.DeepEqual(x, example()) {
		t.Errorf("Reverse changed the entry to %v", x)
	}

	back := full()
	back.Amount, back.Base = -limit, -limit
	z := api.Entry{No: 4000, Entity: "a", Book: 1, Value: 2, Kind: api.Reversal, By: "ann", Reverses: 7, Lines: []api.Line{full(), back, line("1", "EUR", limit-5, limit-7)}}
	kept := copied(z)
	y, e = entry.Reverse(z, 0, api.MaxDay, "b")
	one, two := full(), full()
	one.Amount, one.Base, two.Amount, two.Base = -5, -7, limit, limit
	want = api.Entry{Entity: "a", Book: 0, Value: api.MaxDay, Kind: api.Reversal, By: "b", Reverses: 4000, Lines: []api.Line{one, two, line("1", "EUR", 5-limit, 7-limit)}}
	if e != api.OK || !entry.Same(y, want) || !sameLines(y.Lines, want.Lines) {
		t.Errorf("Reverse = %v, %d, want %v", y, e, want)
	}
	if at, e := entry.Check(y); at != -1 || e != api.OK {
		t.Errorf("Check of the reversal = %d, %d", at, e)
	}
	clear(y.Lines[0].Tags)
	clear(y.Lines)
	if !reflect.DeepEqual(z, kept) {
		t.Errorf("the reversal shares memory with the entry %v", z)
	}
}

// P12.4: each change removes the first error that is left.
func TestReverseErrors(t *testing.T) {
	x := example()
	x.No, x.Entity = 0, "?"
	x.Lines[1].Base = -499
	book, value, by := -1, api.MaxDay+1, "b b"
	for i, step := range []struct {
		change func()
		e      api.Errno
	}{
		{func() {}, api.ErrName},
		{func() { x.Entity = "a" }, api.ErrBalance},
		{func() { x.Lines[0].Cur = "x" }, api.ErrCur},
		{func() { x.Lines = example().Lines[:1] }, api.ErrArg},
		{func() { x.Lines = example().Lines }, api.ErrRef},
		{func() { x.No = 1 }, api.ErrDate},
		{func() { book = 0 }, api.ErrDate},
		{func() { value = api.MaxDay }, api.ErrName},
		{func() { book = api.MaxDay + 1 }, api.ErrDate},
		{func() { book, value = 0, -1 }, api.ErrDate},
		{func() { book, value, by = 0, 0, "" }, api.ErrName},
		{func() { by = "b" }, api.OK},
		{func() { x.No = 4001 }, api.ErrRange},
	} {
		step.change()
		y, e := entry.Reverse(x, book, value, by)
		if e != step.e || e != api.OK && !reflect.DeepEqual(y, api.Entry{}) {
			t.Errorf("step %d: %v, %d, want %d", i, y, e, step.e)
		}
	}
}

// P12.4
func TestSame(t *testing.T) {
	base := api.Entry{No: 3, Entity: "a", Book: 10, Value: 9, Kind: api.Normal, Ref: "r 1", By: "ann", Reverses: 2, Lines: []api.Line{full(), line("40", "EUR", -5, -7)}}
	if !entry.Same(base, copied(base)) || !entry.Same(api.Entry{}, api.Entry{}) {
		t.Error("equal entries are not the same")
	}
	empty := api.Entry{Lines: []api.Line{}}
	if !entry.Same(empty, api.Entry{}) || !entry.Same(api.Entry{}, empty) {
		t.Error("nil and empty lines are not the same")
	}
	tagless := copied(base)
	tagless.Lines[1].Tags = []api.Tag{}
	if !entry.Same(base, tagless) || !entry.Same(tagless, base) {
		t.Error("nil and empty tags are not the same")
	}
	for i, change := range []func(x *api.Entry){
		func(x *api.Entry) { x.No = 4 }, func(x *api.Entry) { x.Entity = "b" }, func(x *api.Entry) { x.Book = 9 }, func(x *api.Entry) { x.Value = 10 }, func(x *api.Entry) { x.Book, x.Value = 9, 10 }, func(x *api.Entry) { x.Kind = 2 }, func(x *api.Entry) { x.Ref = "" }, func(x *api.Entry) { x.By = "Ann" }, func(x *api.Entry) { x.Reverses = 0 },
		func(x *api.Entry) { x.Lines = nil }, func(x *api.Entry) { x.Lines = x.Lines[:1] }, func(x *api.Entry) { x.Lines = append(x.Lines, full()) }, func(x *api.Entry) { slices.Reverse(x.Lines) },
		func(x *api.Entry) { x.Lines[1].Account = "41" }, func(x *api.Entry) { x.Lines[0].Cur = "USD" }, func(x *api.Entry) { x.Lines[1].Amount++ }, func(x *api.Entry) { x.Lines[0].Base-- }, func(x *api.Entry) { x.Lines[0].Partner = "" }, func(x *api.Entry) { x.Lines[0].Party = "b" }, func(x *api.Entry) { x.Lines[0].Partner, x.Lines[0].Party = "p", "b" },
		func(x *api.Entry) { x.Lines[0].Tags = nil }, func(x *api.Entry) { x.Lines[0].Tags[1].Value = "3" }, func(x *api.Entry) { x.Lines[0].Tags[0].Name = "A" }, func(x *api.Entry) { slices.Reverse(x.Lines[0].Tags) }, func(x *api.Entry) { x.Lines[0].Tags = x.Lines[0].Tags[:1] }, func(x *api.Entry) { x.Lines[0].Tags = []api.Tag{{Name: "a1", Value: "b2"}} }, func(x *api.Entry) { x.Lines[1].Tags = []api.Tag{{}} },
	} {
		x := copied(base)
		change(&x)
		if entry.Same(base, x) || entry.Same(x, base) {
			t.Errorf("change %d: %v and %v are the same", i, base, x)
		}
		if !entry.Same(x, copied(x)) {
			t.Errorf("change %d: %v is not the same as its copy", i, x)
		}
	}
}
