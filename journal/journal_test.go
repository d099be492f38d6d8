package journal_test

import (
	"math"
	"math/rand"
	"reflect"
	"slices"
	"strings"
	"testing"

	"accounting/api"
	"accounting/chart"
	"accounting/entry"
	"accounting/fiscal"
	"accounting/journal"
	"accounting/locks"
)

const most, least = math.MaxInt, math.MinInt

// newYear is 1 January 2026, and february the first day of the next period.
const newYear, february = 46021, 46052

// january is the calendar of the chapter's examples.
var january = api.Calendar{First: 1}

// accounts returns a chart with those of the chapter's examples, and others with rules for posting.
func accounts(t *testing.T) *chart.Chart {
	t.Helper()
	c, at, e := chart.New(
		api.Account{Code: "1", Kind: api.Asset},
		api.Account{Code: "10", Parent: "1", Kind: api.Asset, Post: true},
		api.Account{Code: "11", Parent: "1", Kind: api.Asset, Post: true, Cur: "USD"},
		api.Account{Code: "16", Parent: "1", Kind: api.Asset, Post: true, Inter: true},
		api.Account{Code: "40", Kind: api.Income, Post: true},
		api.Account{Code: "50", Kind: api.Expense, Post: true, Need: []string{"dept"}},
	)
	if e != api.OK {
		t.Fatalf("chart.New = %d, %d", at, e)
	}
	return c
}

// build returns an empty journal whose control has the entities a and b and begins with January 2026.
func build(t *testing.T) (*journal.Journal, *locks.Locks) {
	t.Helper()
	k, e := locks.New(january, api.Period{Year: 2026, No: 1}, "a", "b")
	if e != api.OK {
		t.Fatalf("locks.New = %d", e)
	}
	j, e := journal.New(accounts(t), k)
	if j == nil || e != api.OK {
		t.Fatalf("New = %v, %d", j, e)
	}
	return j, k
}

// line returns a line with equal Amount and Base.
func line(account, cur string, amount int) api.Line {
	return api.Line{Account: account, Cur: cur, Amount: amount, Base: amount}
}

// sale returns an entry of the entity a with the lines of the chapter's first example.
func sale(book, value int) api.Entry {
	return api.Entry{Entity: "a", Book: book, Value: value, Kind: api.Normal, By: "u", Lines: []api.Line{line("10", "EUR", 5), line("40", "EUR", -5)}}
}

// tagged returns an entry with all fields that an entry can have when it is posted.
func tagged() api.Entry {
	return api.Entry{Entity: "b", Book: newYear, Value: february, Kind: api.Adjust, Ref: "r 1", By: "ann", Lines: []api.Line{
		{Account: "50", Cur: "EUR", Amount: 7, Base: 9, Party: "p", Tags: []api.Tag{{Name: "dept", Value: "x"}, {Name: "proj", Value: "7"}}},
		{Account: "16", Cur: "EUR", Amount: -7, Base: -9, Partner: "a", Tags: []api.Tag{{Name: "dept", Value: "y"}}},
	}}
}

// copied returns an entry that shares no memory with x.
func copied(x api.Entry) api.Entry {
	x.Lines = slices.Clone(x.Lines)
	for i := range x.Lines {
		x.Lines[i].Tags = slices.Clone(x.Lines[i].Tags)
	}
	return x
}

// numbered returns an entry with a number.
func numbered(no int, x api.Entry) api.Entry {
	x.No = no
	return x
}

// sameAll fails unless the journal has exactly these entries, whichever way they are asked for.
func sameAll(t *testing.T, j *journal.Journal, wanted ...api.Entry) {
	t.Helper()
	all, last := j.All(), -1
	if !slices.EqualFunc(all, wanted, entry.Same) || j.Len() != len(wanted) {
		t.Fatalf("the journal has %d entries %v, want %v", j.Len(), all, wanted)
	}
	for i, x := range wanted {
		if y, ok := j.Entry(i + 1); !ok || !entry.Same(x, y) || y.No != i+1 {
			t.Fatalf("Entry(%d) = %v, %v, want %v", i+1, y, ok, x)
		}
		last = x.Book
	}
	if j.Last() != last {
		t.Fatalf("Last() = %d, want %d", j.Last(), last)
	}
	for _, no := range []int{0, -1, len(wanted) + 1, most, least} {
		if x, ok := j.Entry(no); ok || !reflect.DeepEqual(x, api.Entry{}) || j.Reversed(no) != 0 {
			t.Fatalf("Entry(%d) = %v, %v, Reversed = %d", no, x, ok, j.Reversed(no))
		}
	}
}

// post fails unless Post returns these results.
func post(t *testing.T, j *journal.Journal, x api.Entry, no, at int, e api.Errno) {
	t.Helper()
	if n, i, f := j.Post(x); n != no || i != at || f != e {
		t.Fatalf("Post(%v) = %d, %d, %d, want %d, %d, %d", x, n, i, f, no, at, e)
	}
}

// reverse fails unless Reverse returns these results.
func reverse(t *testing.T, j *journal.Journal, no, book, value int, by string, rev int, e api.Errno) {
	t.Helper()
	if n, f := j.Reverse(no, book, value, by); n != rev || f != e {
		t.Fatalf("Reverse(%d, %d, %d, %q) = %d, %d, want %d, %d", no, book, value, by, n, f, rev, e)
	}
}

// P17.1
func TestNew(t *testing.T) {
	c := accounts(t)
	k, _ := locks.New(january, api.Period{Year: 2026, No: 1}, "a")
	j, e := journal.New(c, k)
	if e != api.OK || j.Chart() != c || j.Locks() != k {
		t.Fatalf("New = %v, %d", j, e)
	}
	sameAll(t, j)
	for i, f := range []func() (*journal.Journal, api.Errno){
		func() (*journal.Journal, api.Errno) { return journal.New(nil, k) },
		func() (*journal.Journal, api.Errno) { return journal.New(c, nil) },
		func() (*journal.Journal, api.Errno) { return journal.New(nil, nil) },
	} {
		if j, e := f(); j != nil || e != api.ErrNone {
			t.Errorf("case %d: New = %v, %d, want ErrNone", i, j, e)
		}
	}
}

// P17.1 to P17.3
func TestNilJournal(t *testing.T) {
	var j *journal.Journal
	if j.Chart() != nil || j.Locks() != nil || j.Reversed(1) != 0 {
		t.Error("a nil journal has something")
	}
	sameAll(t, j)
	post(t, j, sale(newYear, newYear), 0, -1, api.ErrNone)
	post(t, j, api.Entry{No: -1}, 0, -1, api.ErrNone)
	reverse(t, j, 1, newYear, newYear, "u", 0, api.ErrNone)
	reverse(t, j, 0, -1, -1, "", 0, api.ErrNone)
}

// P17.1 to P17.3: the chapter's examples.
func TestExamples(t *testing.T) {
	j, k := build(t)
	first := sale(46021, 46021)
	post(t, j, first, 1, -1, api.OK)
	reverse(t, j, 1, 46022, 46023, "u", 2, api.OK)
	back := api.Entry{No: 2, Entity: "a", Book: 46022, Value: 46023, Kind: api.Reversal, By: "u", Reverses: 1, Lines: []api.Line{line("10", "EUR", -5), line("40", "EUR", 5)}}
	sameAll(t, j, numbered(1, first), back)
	reverse(t, j, 1, 46022, 46023, "u", 0, api.ErrTwice)
	reverse(t, j, 2, 46022, 46023, "u", 0, api.ErrState)
	post(t, j, first, 0, -1, api.ErrOrder)
	wrong := sale(46022, 46021)
	wrong.Lines[0].Account = "1"
	post(t, j, wrong, 0, 0, api.ErrAccount)
	if e := k.Close("a", "u"); e != api.OK {
		t.Fatal(e)
	}
	post(t, j, sale(46022, 46021), 0, -1, api.ErrPeriod)
	sameAll(t, j, numbered(1, first), back)
}

// P17.1
func TestReversed(t *testing.T) {
	j, _ := build(t)
	for no := 1; no <= 4; no++ {
		post(t, j, sale(newYear, newYear), no, -1, api.OK)
	}
	reverse(t, j, 3, newYear, newYear, "u", 5, api.OK)
	reverse(t, j, 1, newYear, newYear, "u", 6, api.OK)
	for no, by := range []int{0, 6, 0, 5, 0, 0, 0, 0} {
		if j.Reversed(no) != by {
			t.Errorf("Reversed(%d) = %d, want %d", no, j.Reversed(no), by)
		}
	}
}

// P17.2: entries of all kinds and fields, and booking days that do not decrease while value days do.
func TestPost(t *testing.T) {
	j, _ := build(t)
	var wanted []api.Entry
	for i, x := range []api.Entry{sale(0, february), sale(0, newYear), tagged(), sale(newYear, api.MaxDay), sale(newYear+1, newYear), sale(api.MaxDay, newYear), sale(api.MaxDay, february)} {
		x.Kind = []int{api.Normal, api.Opening, api.Adjust, api.YearEnd, api.Revalue, api.Recost, api.Normal}[i]
		post(t, j, x, i+1, -1, api.OK)
		wanted = append(wanted, numbered(i+1, x))
	}
	sameAll(t, j, wanted...)
}

// P17.2: each step removes the first error that is left.
func TestErrorsOfPost(t *testing.T) {
	j, k := build(t)
	post(t, j, sale(newYear+5, newYear), 1, -1, api.OK)
	k.Close("a", "u")
	x := api.Entry{No: 1, Entity: "c c", Book: newYear, Value: newYear, Kind: api.Reversal, By: "u", Reverses: 1, Lines: []api.Line{line("10", "EUR", 5), line("1", "?", -4), line("9", "EUR", 5)}}
	for i, step := range []struct {
		change func()
		at     int
		e      api.Errno
	}{
		{func() {}, -1, api.ErrArg},
		{func() { x.No, x.Reverses = 0, -1 }, -1, api.ErrArg},
		{func() { x.No, x.Reverses = least, 0 }, -1, api.ErrArg},
		{func() { x.No, x.Reverses = 0, 1 }, -1, api.ErrArg},
		{func() { x.Reverses = 0 }, -1, api.ErrName},
		{func() { x.Entity = "c" }, 1, api.ErrCur},
		{func() { x.Lines[1].Cur = "EUR" }, -1, api.ErrBalance},
		{func() { x.Lines[1] = line("1", "EUR", -10) }, -1, api.ErrKind},
		{func() { x.Kind = api.YearEnd }, -1, api.ErrOrder},
		{func() { x.Book = newYear + 4 }, -1, api.ErrOrder},
		{func() { x.Book = newYear + 5 }, 1, api.ErrAccount},
		{func() { x.Lines[1].Account = "11" }, 1, api.ErrCur},
		{func() { x.Lines[1].Account = "16" }, 1, api.ErrParty},
		{func() { x.Lines[1].Account = "50" }, 1, api.ErrTag},
		{func() { x.Lines[1].Account = "40" }, 2, api.ErrAccount},
		{func() { x.Lines[2].Account = "10" }, -1, api.ErrNone},
		{func() { x.Entity = "a" }, -1, api.ErrPeriod},
		{func() { x.Value = february - 1 }, -1, api.ErrPeriod},
		{func() { x.Value = february }, -1, api.OK},
	} {
		step.change()
		no, at, e := j.Post(x)
		if wanted := map[bool]int{true: 2}[e == api.OK]; no != wanted || at != step.at || e != step.e {
			t.Errorf("step %d: Post(%v) = %d, %d, %d, want %d, %d", i, x, no, at, e, step.at, step.e)
		}
	}
	sameAll(t, j, numbered(1, sale(newYear+5, newYear)), numbered(2, x))
}

// P17.2: the errors of entry's Check come with its index.
func TestErrorsOfCheck(t *testing.T) {
	j, _ := build(t)
	for i, c := range []struct {
		change func(x *api.Entry)
		at     int
		e      api.Errno
	}{
		{func(x *api.Entry) { x.By = "" }, -1, api.ErrName}, {func(x *api.Entry) { x.Book = -1 }, -1, api.ErrDate}, {func(x *api.Entry) { x.Value = api.MaxDay + 1 }, -1, api.ErrDate}, {func(x *api.Entry) { x.Kind = 0 }, -1, api.ErrKind}, {func(x *api.Entry) { x.Kind = 8 }, -1, api.ErrKind},
		{func(x *api.Entry) { x.Ref = "\n" }, -1, api.ErrForm}, {func(x *api.Entry) { x.Ref = strings.Repeat("r", 61) }, -1, api.ErrForm}, {func(x *api.Entry) { x.Lines = nil }, -1, api.ErrArg}, {func(x *api.Entry) { x.Lines = make([]api.Line, 101) }, -1, api.ErrMany},
		{func(x *api.Entry) { x.Lines[0].Account = "" }, 0, api.ErrName}, {func(x *api.Entry) { x.Lines[1].Base = least }, 1, api.ErrOver}, {func(x *api.Entry) { x.Lines[1].Amount, x.Lines[1].Base = 0, 0 }, 1, api.ErrArg}, {func(x *api.Entry) { x.Lines[0].Tags = make([]api.Tag, 1) }, 0, api.ErrTag}, {func(x *api.Entry) { x.Lines[1].Base++ }, -1, api.ErrBalance},
	} {
		x := sale(newYear, newYear)
		c.change(&x)
		if no, at, e := j.Post(x); no != 0 || at != c.at || e != c.e {
			t.Errorf("case %d: Post(%v) = %d, %d, %d, want %d, %d", i, x, no, at, e, c.at, c.e)
		}
	}
	sameAll(t, j)
}

// P17.3: the errors in their order, while the earlier ones do not apply and the later ones do.
func TestErrorsOfReverse(t *testing.T) {
	j, k := build(t)
	for no := 1; no <= 3; no++ {
		post(t, j, sale(newYear+5, newYear), no, -1, api.OK)
	}
	reverse(t, j, 1, newYear+5, newYear, "u", 4, api.OK)
	k.Close("a", "u")
	entries := j.All()
	for _, c := range []struct {
		no, book, value int
		by              string
		e               api.Errno
	}{
		{0, -1, -1, "", api.ErrRef}, {-1, -1, -1, "", api.ErrRef}, {5, -1, -1, "", api.ErrRef}, {most, -1, -1, "", api.ErrRef}, {least, 0, 0, "u", api.ErrRef},
		{4, -1, -1, "", api.ErrState}, {1, -1, -1, "", api.ErrTwice}, {1, newYear + 5, february, "u", api.ErrTwice},
		{2, -1, newYear, "", api.ErrDate}, {2, newYear, -1, "", api.ErrDate}, {2, api.MaxDay + 1, newYear, "", api.ErrDate}, {2, newYear, api.MaxDay + 1, "", api.ErrDate}, {2, least, newYear, "u", api.ErrDate}, {2, newYear, most, "u", api.ErrDate},
		{2, newYear, newYear, "", api.ErrName}, {2, newYear, newYear, "u u", api.ErrName}, {2, newYear, newYear, "abcdefghijklm", api.ErrName},
		{2, newYear, newYear, "u", api.ErrOrder}, {2, newYear + 4, newYear, "u", api.ErrOrder}, {2, 0, february, "u", api.ErrOrder},
		{2, newYear + 5, newYear, "u", api.ErrPeriod}, {2, newYear + 5, february - 1, "u", api.ErrPeriod}, {2, newYear + 5, 0, "u", api.ErrPeriod},
	} {
		reverse(t, j, c.no, c.book, c.value, c.by, 0, c.e)
	}
	sameAll(t, j, entries...)
	reverse(t, j, 2, newYear+5, february, "u", 5, api.OK)
	reverse(t, j, 3, api.MaxDay, api.MaxDay, "u", 6, api.OK)
}

// P17.3: a reversal keeps what the entry has, and belongs to the period of its value day, whatever the kind of the entry was.
func TestReversal(t *testing.T) {
	j, k := build(t)
	lastDay := february + 333 // 31 December 2026
	x := tagged()
	x.Value = lastDay
	post(t, j, x, 1, -1, api.OK)
	for range 12 {
		k.Close("b", "u")
	}
	// The entry belongs to period 13, which is open, but its reversal would belong to period 12.
	reverse(t, j, 1, newYear+1, lastDay, "v", 0, api.ErrPeriod)
	reverse(t, j, 1, newYear+1, lastDay+1, "v", 2, api.OK)
	y := api.Entry{No: 2, Entity: "b", Book: newYear + 1, Value: lastDay + 1, Kind: api.Reversal, Ref: "r 1", By: "v", Reverses: 1, Lines: copied(x).Lines}
	for i := range y.Lines {
		y.Lines[i].Amount, y.Lines[i].Base = -y.Lines[i].Amount, -y.Lines[i].Base
	}
	sameAll(t, j, numbered(1, x), y)
}

// P17.2, P17.3: a full journal, in which all other errors come first.
func TestFullJournal(t *testing.T) {
	j, k := build(t)
	for no := 1; no < api.MaxEntries; no++ {
		post(t, j, sale(newYear, newYear), no, -1, api.OK)
	}
	reverse(t, j, 7, newYear+1, newYear, "u", api.MaxEntries, api.OK)
	entries := j.All()
	k.Close("a", "u")
	for _, c := range []struct {
		x  api.Entry
		at int
		e  api.Errno
	}{{sale(newYear+1, february), -1, api.ErrMany}, {sale(newYear+1, newYear), -1, api.ErrPeriod}, {sale(newYear, newYear), -1, api.ErrOrder}, {numbered(api.MaxEntries+1, sale(newYear+1, february)), -1, api.ErrArg}} {
		post(t, j, c.x, 0, c.at, c.e)
	}
	reverse(t, j, 1, newYear+1, february, "u", 0, api.ErrMany)
	reverse(t, j, 1, newYear+1, newYear, "u", 0, api.ErrPeriod)
	reverse(t, j, api.MaxEntries, newYear+1, february, "u", 0, api.ErrState)
	reverse(t, j, 7, newYear+1, february, "u", 0, api.ErrTwice)
	sameAll(t, j, entries...)
	if j.Reversed(1) != 0 || j.Reversed(7) != api.MaxEntries {
		t.Errorf("Reversed = %d, %d", j.Reversed(1), j.Reversed(7))
	}
}

// P17.5: neither the arguments nor the results share memory with the journal, or with each other.
func TestHistoryIsSafe(t *testing.T) {
	j, _ := build(t)
	x := tagged()
	spare := line("spare", "USD", 1)
	x.Lines = append(x.Lines, spare)[:2]
	given := copied(x)
	post(t, j, x, 1, -1, api.OK)
	if !reflect.DeepEqual(x, given) || !reflect.DeepEqual(x.Lines[:3][2], spare) {
		t.Errorf("Post changed the entry to %v", x)
	}
	reverse(t, j, 1, newYear, february, "v", 2, api.OK)
	wanted := []api.Entry{copied(numbered(1, x)), copied(j.All()[1])}
	spoil := func(l []api.Entry) {
		for i := range l {
			for k := range l[i].Lines {
				clear(l[i].Lines[k].Tags)
				_ = append(l[i].Lines[k].Tags, api.Tag{Name: "z", Value: "z"})
			}
			_ = append(l[i].Lines, spare)
			clear(l[i].Lines)
		}
		clear(l)
	}
	spoil([]api.Entry{x})
	sameAll(t, j, wanted...)
	for range 2 {
		one, _ := j.Entry(1)
		two, _ := j.Entry(2)
		all, kept := j.All(), j.All()
		spoil([]api.Entry{one, two})
		spoil(all)
		_ = append(all, sale(0, 0))
		if !slices.EqualFunc(kept, wanted, entry.Same) {
			t.Fatalf("two results of All share memory: %v", kept)
		}
		sameAll(t, j, wanted...)
	}
}

// P17.2, rule 7: the journal uses the control with which it was created, and shares it with others.
func TestSharedControl(t *testing.T) {
	j, k := build(t)
	other, _ := journal.New(j.Chart(), k)
	post(t, j, sale(newYear, newYear), 1, -1, api.OK)
	j.Locks().Close("a", "u")
	post(t, j, sale(newYear, newYear), 0, -1, api.ErrPeriod)
	post(t, other, sale(newYear, newYear), 0, -1, api.ErrPeriod)
	k.Ask("a", "u")
	k.Reopen("a", "v")
	post(t, other, sale(newYear, newYear), 1, -1, api.OK)
	post(t, j, sale(newYear, newYear), 2, -1, api.OK)
}

// model is a journal as the chapter describes it.
type model struct {
	c       *chart.Chart
	k       *locks.Locks
	entries []api.Entry
}

// last returns the last booking day.
func (m *model) last() int {
	if len(m.entries) == 0 {
		return -1
	}
	return m.entries[len(m.entries)-1].Book
}

// post returns what Post returns.
func (m *model) post(x api.Entry) (no, at int, e api.Errno) {
	if x.No != 0 || x.Reverses != 0 {
		return 0, -1, api.ErrArg
	}
	if at, e := entry.Check(x); e != api.OK {
		return 0, at, e
	}
	if x.Kind == api.Reversal {
		return 0, -1, api.ErrKind
	}
	if x.Book < m.last() {
		return 0, -1, api.ErrOrder
	}
	for i, l := range x.Lines {
		if e := m.c.Allow(l); e != api.OK {
			return 0, i, e
		}
	}
	if e := m.k.Allow(x.Entity, x.Value, x.Kind); e != api.OK {
		return 0, -1, e
	}
	m.entries = append(m.entries, copied(numbered(len(m.entries)+1, x)))
	return len(m.entries), -1, api.OK
}

// reverse returns what Reverse returns. Only codes are given as by, apart from the empty text.
func (m *model) reverse(no, book, value int, by string) (int, api.Errno) {
	switch {
	case no < 1 || no > len(m.entries):
		return 0, api.ErrRef
	case m.entries[no-1].Kind == api.Reversal:
		return 0, api.ErrState
	case m.reversed(no) != 0:
		return 0, api.ErrTwice
	case min(book, value) < 0 || max(book, value) > api.MaxDay:
		return 0, api.ErrDate
	case by == "":
		return 0, api.ErrName
	case book < m.last():
		return 0, api.ErrOrder
	}
	x := copied(m.entries[no-1])
	if e := m.k.Allow(x.Entity, value, api.Reversal); e != api.OK {
		return 0, e
	}
	y := api.Entry{No: len(m.entries) + 1, Entity: x.Entity, Book: book, Value: value, Kind: api.Reversal, Ref: x.Ref, By: by, Reverses: no, Lines: x.Lines}
	for i := range y.Lines {
		y.Lines[i].Amount *= -1
		y.Lines[i].Base *= -1
	}
	m.entries = append(m.entries, y)
	return y.No, api.OK
}

// reversed returns what Reversed returns.
func (m *model) reversed(no int) int {
	for _, x := range m.entries {
		if no > 0 && x.Reverses == no {
			return x.No
		}
	}
	return 0
}

// randomEntry returns an entry that can often be posted.
func randomEntry(r *rand.Rand, last int) api.Entry {
	pick := func(l ...string) string { return l[r.Intn(len(l))] }
	x := api.Entry{Entity: pick("a", "a", "b", "b", "b", "c"), Book: last + r.Intn(4) - r.Intn(8)/7, Value: newYear + r.Intn(450) - 20, Kind: 1 + r.Intn(7), Ref: pick("", "r"), By: pick("u", "v")}
	for range 1 + r.Intn(3) {
		l := api.Line{Account: pick("10", "10", "10", "11", "16", "40", "50"), Cur: pick("EUR", "USD"), Amount: 1 + r.Intn(99), Base: r.Intn(99), Party: pick("", "p")}
		if l.Account == "16" || r.Intn(20) == 0 {
			l.Partner = "b"
		}
		if l.Account == "50" && r.Intn(3) > 0 {
			l.Tags = []api.Tag{{Name: "dept", Value: pick("x", "y")}}
		}
		x.Lines = append(x.Lines, l, api.Line{Account: pick("10", "40"), Cur: l.Cur, Amount: -l.Amount, Base: -l.Base})
	}
	switch r.Intn(30) {
	case 0:
		x.No = r.Intn(3)
	case 1:
		x.Reverses = r.Intn(3)
	case 2:
		x.Lines[r.Intn(len(x.Lines))].Base++
	case 3:
		x.Lines[r.Intn(len(x.Lines))].Cur = ""
	}
	return x
}

// checkBalance fails unless, for each entity, period, currency and booking day, the lines add up to 0.
func checkBalance(t *testing.T, j *journal.Journal) {
	t.Helper()
	type place struct {
		entity string
		p      api.Period
		cur    string
	}
	sums := map[place][2]int{}
	all := j.All()
	for i, x := range all {
		p, e := fiscal.For(january, x.Value, x.Kind)
		if e != api.OK {
			t.Fatalf("entry %d belongs to no period", x.No)
		}
		for _, l := range x.Lines {
			k := place{x.Entity, p, l.Cur}
			sums[k] = [2]int{sums[k][0] + l.Amount, sums[k][1] + l.Base}
		}
		if i < len(all)-1 && all[i+1].Book == x.Book {
			continue
		}
		for k, s := range sums {
			if s != [2]int{} {
				t.Fatalf("%v has the sums %v on booking day %d", k, s, x.Book)
			}
		}
	}
}

// checkReversals fails unless each entry and its reversal together add 0 to each account and currency.
func checkReversals(t *testing.T, j *journal.Journal) {
	t.Helper()
	for _, x := range j.All() {
		by := j.Reversed(x.No)
		if by == 0 {
			continue
		}
		y, ok := j.Entry(by)
		if !ok || y.Reverses != x.No || y.Entity != x.Entity {
			t.Fatalf("%v is reversed by %v", x, y)
		}
		sums := map[[2]string][2]int{}
		for _, l := range append(x.Lines, y.Lines...) {
			k := [2]string{l.Account, l.Cur}
			sums[k] = [2]int{sums[k][0] + l.Amount, sums[k][1] + l.Base}
		}
		for k, s := range sums {
			if s != [2]int{} {
				t.Fatalf("%v and its reversal add %v to %v", x, s, k)
			}
		}
	}
}

// P17.1 to P17.5: random calls, compared with the model after each of them.
func TestRandomCalls(t *testing.T) {
	r := rand.New(rand.NewSource(17))
	posts, reversals := map[api.Errno]int{}, map[api.Errno]int{}
	for range 60 {
		j, k := build(t)
		m := &model{c: j.Chart(), k: k}
		last := newYear
		for range 120 {
			last = max(last, m.last())
			switch r.Intn(12) {
			case 0:
				k.Close([]string{"a", "b"}[r.Intn(2)], "u")
			case 1, 2, 3, 4:
				no, book, value := r.Intn(len(m.entries)+2), last+r.Intn(3)-r.Intn(8)/7, newYear+r.Intn(450)-20
				if r.Intn(20) == 0 {
					book, value = r.Intn(3)-1, r.Intn(3)-1
				}
				by := []string{"v", "v", "v", "v", "v", ""}[r.Intn(6)]
				rev, e := m.reverse(no, book, value, by)
				reverse(t, j, no, book, value, by, rev, e)
				reversals[e]++
			default:
				x := randomEntry(r, last)
				no, at, e := m.post(x)
				post(t, j, x, no, at, e)
				posts[e]++
			}
			if j.Len() != len(m.entries) || j.Last() != m.last() {
				t.Fatalf("Len() = %d, Last() = %d, want %d, %d", j.Len(), j.Last(), len(m.entries), m.last())
			}
		}
		sameAll(t, j, m.entries...)
		for no := range len(m.entries) + 2 {
			if j.Reversed(no) != m.reversed(no) {
				t.Fatalf("Reversed(%d) = %d, want %d", no, j.Reversed(no), m.reversed(no))
			}
		}
		checkBalance(t, j)
		checkReversals(t, j)
	}
	for _, e := range []api.Errno{api.OK, api.ErrArg, api.ErrBalance, api.ErrCur, api.ErrKind, api.ErrOrder, api.ErrParty, api.ErrTag, api.ErrNone, api.ErrPeriod} {
		if posts[e] < 20 {
			t.Errorf("Post returned %d only %d times", e, posts[e])
		}
	}
	for _, e := range []api.Errno{api.OK, api.ErrRef, api.ErrState, api.ErrTwice, api.ErrDate, api.ErrName, api.ErrOrder, api.ErrPeriod} {
		if reversals[e] < 20 {
			t.Errorf("Reverse returned %d only %d times", e, reversals[e])
		}
	}
}
