package locks_test

import (
	"math"
	"math/rand"
	"slices"
	"strconv"
	"strings"
	"testing"

	"accounting/api"
	"accounting/fiscal"
	"accounting/locks"
)

const most, least = math.MaxInt, math.MinInt

// january is the calendar of the chapter's examples, and april another one.
var january, april = api.Calendar{First: 1}, api.Calendar{First: 4}

// wrongCodes are texts that are not codes.
var wrongCodes = []string{"", " ", "a b", "ä", "a-b", "abcdefghijklm", "\x00", "\xff", "a\n", strings.Repeat("a", 500)}

// period returns a period.
func period(year, no int) api.Period {
	return api.Period{Year: year, No: no}
}

// build returns a control without errors.
func build(t *testing.T, c api.Calendar, first api.Period, entities ...string) *locks.Locks {
	t.Helper()
	k, e := locks.New(c, first, entities...)
	if k == nil || e != api.OK {
		t.Fatalf("New(%v, %v, %v) = %v, %d", c, first, entities, k, e)
	}
	return k
}

// want fails unless the errors are those wanted.
func want(t *testing.T, got []api.Errno, wanted ...api.Errno) {
	t.Helper()
	if !slices.Equal(got, wanted) {
		t.Fatalf("the errors are %v, want %v", got, wanted)
	}
}

// names returns n different codes.
func names(n int) (l []string) {
	for i := range n {
		l = append(l, "e"+strconv.Itoa(i))
	}
	return l
}

// P16.1
func TestNew(t *testing.T) {
	there := period(2024, 1)
	for i, c := range []struct {
		c        api.Calendar
		first    api.Period
		entities []string
		e        api.Errno
	}{
		{january, there, nil, api.OK}, {january, there, []string{}, api.OK}, {january, there, []string{"b", "a"}, api.OK}, {january, there, names(200), api.OK}, {january, there, []string{"abcdefghijkl", "A", "a"}, api.OK},
		{january, period(1900, 1), nil, api.OK}, {january, period(2199, 13), nil, api.OK}, {april, period(2198, 13), nil, api.OK},
		// A wrong calendar, whatever else is wrong.
		{api.Calendar{}, there, nil, api.ErrArg}, {api.Calendar{First: 13}, api.Period{}, []string{"!"}, api.ErrArg}, {api.Calendar{First: -1}, there, make([]string, 201), api.ErrArg}, {api.Calendar{First: least}, api.Period{}, nil, api.ErrArg},
		// A period that does not exist, whatever the entities are.
		{january, api.Period{}, nil, api.ErrPeriod}, {january, period(2024, 14), []string{"!"}, api.ErrPeriod}, {january, period(2024, 0), make([]string, 201), api.ErrPeriod}, {january, period(2200, 1), nil, api.ErrPeriod}, {january, period(1899, 13), []string{"a", "a"}, api.ErrPeriod}, {april, period(2199, 1), nil, api.ErrPeriod}, {january, period(most, least), nil, api.ErrPeriod},
		// Too many entities, whatever they are.
		{january, there, names(201), api.ErrMany}, {january, there, make([]string, 201), api.ErrMany},
		// The first entity with an error counts.
		{january, there, []string{"a", "b", "a", "!"}, api.ErrTwice}, {january, there, []string{"a", "!", "a"}, api.ErrName}, {january, there, []string{"!", "!"}, api.ErrName}, {january, there, append(names(199), "e0"), api.ErrTwice},
	} {
		given := slices.Clone(c.entities)
		k, e := locks.New(c.c, c.first, c.entities...)
		if e != c.e || (k != nil) != (e == api.OK) {
			t.Errorf("case %d: New(%v, %v, %v) = %v, %d, want %d", i, c.c, c.first, c.entities, k, e, c.e)
		}
		if !slices.Equal(c.entities, given) {
			t.Errorf("case %d: New changed the entities to %v", i, c.entities)
		}
		if e != api.OK {
			continue
		}
		slices.Sort(given)
		if k.Calendar() != c.c || !slices.Equal(k.Entities(), given) || len(k.Events()) != 0 {
			t.Errorf("case %d: %v, %v, %v", i, k.Calendar(), k.Entities(), k.Events())
		}
		for _, entity := range given {
			if p, e := k.First(entity); p != c.first || e != api.OK {
				t.Errorf("case %d: First(%s) = %v, %d", i, entity, p, e)
			}
		}
	}
	for _, s := range wrongCodes {
		if k, e := locks.New(january, there, "a", s); k != nil || e != api.ErrName {
			t.Errorf("New with the entity %q = %v, %d, want ErrName", s, k, e)
		}
	}
}

// P16.1: the entities belong to the caller before and after the call.
func TestEntitiesAreCopies(t *testing.T) {
	given := []string{"c", "a", "b"}
	k := build(t, january, period(2024, 1), given...)
	clear(given)
	clear(k.Entities())
	if l := k.Entities(); !slices.Equal(l, []string{"a", "b", "c"}) {
		t.Errorf("Entities() = %q", l)
	}
}

// P16.2, P16.3, P16.5: the chapter's first example.
func TestFirstExample(t *testing.T) {
	k := build(t, january, period(2024, 1), "b", "a")
	if !slices.Equal(k.Entities(), []string{"a", "b"}) || k.State("a", period(2023, 13)) != api.Shut {
		t.Errorf("%v, %d", k.Entities(), k.State("a", period(2023, 13)))
	}
	want(t, []api.Errno{k.Allow("a", 45289, api.Normal), k.Allow("a", 45290, api.Normal)}, api.ErrPeriod, api.OK)
}

// P16.3, P16.4, P16.6: the chapter's second example.
func TestSecondExample(t *testing.T) {
	k := build(t, january, period(2024, 1), "b", "a")
	want(t, []api.Errno{k.Ask("a", "u"), k.Close("a", "u"), k.Ask("a", "u"), k.Reopen("a", "u"), k.Reopen("a", "v")}, api.ErrState, api.OK, api.OK, api.ErrUser, api.OK)
	events := []api.Event{
		{Kind: api.ActClose, Entity: "a", Period: period(2024, 1), User: "u"}, {Kind: api.ActAsk, Entity: "a", Period: period(2024, 1), User: "u"}, {Kind: api.ActReopen, Entity: "a", Period: period(2024, 1), User: "v"},
	}
	if !slices.Equal(k.Events(), events) {
		t.Errorf("Events() = %v, want %v", k.Events(), events)
	}
}

// P16.2
func TestFirstAndState(t *testing.T) {
	k := build(t, april, period(2024, 2), "a")
	for _, c := range []struct {
		entity string
		p      api.Period
		state  int
	}{
		{"a", period(2024, 2), api.Open}, {"a", period(2024, 3), api.Open}, {"a", period(2024, 13), api.Open}, {"a", period(2025, 1), api.Open}, {"a", period(2198, 13), api.Open},
		{"a", period(2024, 1), api.Shut}, {"a", period(2023, 13), api.Shut}, {"a", period(2023, 2), api.Shut}, {"a", period(1900, 1), api.Shut},
		{"a", period(2024, 0), 0}, {"a", period(2024, 14), 0}, {"a", period(1899, 13), 0}, {"a", period(2199, 1), 0}, {"a", period(2025, 0), 0}, {"a", period(2023, 14), 0}, {"a", api.Period{}, 0}, {"a", period(most, 1), 0}, {"a", period(least, 1), 0}, {"a", period(2024, most), 0}, {"a", period(2024, least), 0},
		{"b", period(2024, 2), 0}, {"", period(2024, 2), 0}, {"A", period(2024, 1), 0},
	} {
		if state := k.State(c.entity, c.p); state != c.state {
			t.Errorf("State(%q, %v) = %d, want %d", c.entity, c.p, state, c.state)
		}
	}
	for _, entity := range append(wrongCodes, "b", "A") {
		if p, e := k.First(entity); p != (api.Period{}) || e != api.ErrNone {
			t.Errorf("First(%q) = %v, %d, want ErrNone", entity, p, e)
		}
	}
}

// P16.3 to P16.5: an unknown entity, then no code, then the other errors.
func TestOrderOfErrors(t *testing.T) {
	k := build(t, january, period(2199, 13), "a")
	for _, call := range []func(entity, user string) api.Errno{k.Close, k.Ask, k.Reopen} {
		for _, entity := range append(wrongCodes, "b", "A") {
			for _, user := range []string{"", "u"} {
				if e := call(entity, user); e != api.ErrNone {
					t.Errorf("a call for %q by %q returns %d, want ErrNone", entity, user, e)
				}
			}
		}
		for _, user := range wrongCodes {
			if e := call("a", user); e != api.ErrName {
				t.Errorf("a call by %q returns %d, want ErrName", user, e)
			}
		}
	}
	want(t, []api.Errno{k.Close("a", "u"), k.Ask("a", "u"), k.Reopen("a", "u")}, api.ErrPeriod, api.ErrState, api.ErrState)
	if p, _ := k.First("a"); p != period(2199, 13) || len(k.Events()) != 0 {
		t.Errorf("failed calls had an effect: %v, %v", p, k.Events())
	}
	want(t, []api.Errno{k.Allow("b", -1, 0), k.Allow("", 0, 0), k.Allow("a", -1, 0), k.Allow("a", api.MaxDay+1, 0), k.Allow("a", most, 0), k.Allow("a", least, 0)}, api.ErrNone, api.ErrNone, api.ErrDate, api.ErrDate, api.ErrDate, api.ErrDate)
}

// P16.3: a year has 13 periods, and the last one of all is never shut.
func TestCloseToTheEnd(t *testing.T) {
	for _, c := range []struct {
		c    api.Calendar
		last int
	}{{january, 2199}, {april, 2198}} {
		first := period(c.last-1, 11)
		k := build(t, c.c, first, "a", "b")
		var shut []api.Period
		for range 15 {
			p, _ := k.First("a")
			shut = append(shut, p)
			if e := k.Close("a", "u"); e != api.OK {
				t.Fatalf("Close of %v returns %d", p, e)
			}
			if k.State("a", p) != api.Shut {
				t.Fatalf("the state of %v is %d", p, k.State("a", p))
			}
		}
		want(t, []api.Errno{k.Close("a", "u"), k.Close("a", "u")}, api.ErrPeriod, api.ErrPeriod)
		if p, _ := k.First("a"); p != period(c.last, 13) || k.State("a", p) != api.Open || len(k.Events()) != 15 {
			t.Errorf("the first open period is %v, and there are %d events", p, len(k.Events()))
		}
		if p, _ := k.First("b"); p != first {
			t.Errorf("the first open period of b is %v", p)
		}
		for i, event := range k.Events() {
			if event != (api.Event{Kind: api.ActClose, Entity: "a", Period: shut[i], User: "u"}) {
				t.Errorf("event %d is %v", i, event)
			}
		}
	}
}

// P16.3, P16.4: a request is replaced by another one, dropped by Close and removed by Reopen; failed calls leave it.
func TestRequests(t *testing.T) {
	k := build(t, january, period(2024, 12), "a")
	k.Close("a", "u")
	k.Close("a", "u")
	want(t, []api.Errno{k.Reopen("a", "v"), k.Ask("a", "u"), k.Reopen("a", "u"), k.Reopen("a", "!"), k.Ask("a", "!"), k.Close("a", "!"), k.Reopen("a", "u")}, api.ErrState, api.OK, api.ErrUser, api.ErrName, api.ErrName, api.ErrName, api.ErrUser)
	// The request is now that of v.
	want(t, []api.Errno{k.Ask("a", "v"), k.Reopen("a", "v"), k.Reopen("a", "u")}, api.OK, api.ErrUser, api.OK)
	if p, _ := k.First("a"); p != period(2024, 13) {
		t.Errorf("the first open period is %v", p)
	}
	// A request does not outlast its fulfilment.
	want(t, []api.Errno{k.Reopen("a", "u"), k.Reopen("a", "w")}, api.ErrState, api.ErrState)
	// Nor the next Close.
	want(t, []api.Errno{k.Ask("a", "u"), k.Close("a", "w"), k.Reopen("a", "v"), k.Reopen("a", "w")}, api.OK, api.OK, api.ErrState, api.ErrState)
	want(t, []api.Errno{k.Ask("a", "u"), k.Reopen("a", "v"), k.Ask("a", "u"), k.Reopen("a", "v"), k.Ask("a", "u"), k.Reopen("a", "v")}, api.OK, api.OK, api.OK, api.OK, api.ErrState, api.ErrState)
	if p, _ := k.First("a"); p != period(2024, 12) {
		t.Errorf("the first open period is %v, want the start", p)
	}
	// The same user can ask twice.
	k.Close("a", "u")
	want(t, []api.Errno{k.Ask("a", "u"), k.Ask("a", "u"), k.Reopen("a", "u"), k.Reopen("a", "v")}, api.OK, api.OK, api.ErrUser, api.OK)
}

// P16.3: Close that fails keeps a pending request.
func TestFailedCloseKeepsRequest(t *testing.T) {
	k := build(t, january, period(2199, 12), "a")
	want(t, []api.Errno{k.Close("a", "u"), k.Ask("a", "u"), k.Close("a", "u"), k.Reopen("a", "u"), k.Reopen("a", "v")}, api.OK, api.OK, api.ErrPeriod, api.ErrUser, api.OK)
}

// P16.5: every day of two years, for all kinds of entries and some others.
func TestAllow(t *testing.T) {
	for _, c := range []api.Calendar{january, april, {First: 12}} {
		for _, first := range []api.Period{period(2024, 1), period(2024, 2), period(2024, 12), period(2024, 13)} {
			k := build(t, c, first, "a")
			begin, _, _ := fiscal.Span(c, period(2024, 1))
			_, end, _ := fiscal.Span(c, period(2024, 13))
			open, _, _ := fiscal.Span(c, first)
			for day := begin - 40; day <= end+40; day++ {
				for _, kind := range []int{api.Normal, api.Opening, api.Adjust, api.YearEnd, api.Reversal, api.Revalue, api.Recost, 0, -1, 8, most, least} {
					allowed := day >= open
					if first.No == 13 && day == end {
						// Only adjustments belong to the last period.
						allowed = kind == api.Adjust || kind == api.YearEnd
					}
					wanted := api.OK
					if !allowed {
						wanted = api.ErrPeriod
					}
					if e := k.Allow("a", day, kind); e != wanted {
						t.Fatalf("%v, %v: Allow(%d, %d) = %d, want %d", c, first, day, kind, e, wanted)
					}
				}
			}
		}
	}
}

// P16.5: days that belong to no fiscal year, and the first and last ones that do.
func TestAllowAtTheEdges(t *testing.T) {
	k := build(t, april, period(1900, 1), "a")
	for _, c := range []struct {
		day int
		e   api.Errno
	}{{-1, api.ErrDate}, {0, api.ErrPeriod}, {89, api.ErrPeriod}, {90, api.OK}, {api.MaxDay - 275, api.OK}, {api.MaxDay - 274, api.ErrPeriod}, {api.MaxDay, api.ErrPeriod}, {api.MaxDay + 1, api.ErrDate}} {
		if e := k.Allow("a", c.day, api.Normal); e != c.e {
			t.Errorf("Allow(%d) = %d, want %d", c.day, e, c.e)
		}
	}
	k = build(t, january, period(1900, 1), "a")
	want(t, []api.Errno{k.Allow("a", 0, api.Normal), k.Allow("a", api.MaxDay, api.YearEnd)}, api.OK, api.OK)
}

// P16.6: results do not share memory with the control.
func TestEventsAreCopies(t *testing.T) {
	k := build(t, january, period(2024, 1), "a")
	k.Close("a", "u")
	k.Events()[0].User = "x"
	_ = append(k.Events(), api.Event{User: "x"})
	k.Close("a", "v")
	if l := k.Events(); len(l) != 2 || l[0].User != "u" || l[1].User != "v" {
		t.Errorf("Events() = %v", l)
	}
}

// P16.1 to P16.6
func TestNilLocks(t *testing.T) {
	var k *locks.Locks
	p, first := k.First("a")
	want(t, []api.Errno{first, k.Close("", ""), k.Ask("a", "!"), k.Reopen("a", "u"), k.Allow("a", -1, 0), k.Allow("a", 45290, api.Normal)}, api.ErrNone, api.ErrNone, api.ErrNone, api.ErrNone, api.ErrNone, api.ErrNone)
	if p != (api.Period{}) || k.Calendar() != (api.Calendar{}) || len(k.Entities()) != 0 || len(k.Events()) != 0 || k.State("a", period(2024, 1)) != 0 {
		t.Error("a nil control has something")
	}
}

// model counts, for each entity, the periods that have been shut since the start.
type model struct {
	c        api.Calendar
	periods  []api.Period // from the start on
	shut     map[string]int
	requests map[string]string
	events   []api.Event
}

// newModel returns a control of the entities without errors.
func newModel(c api.Calendar, start api.Period, entities ...string) *model {
	m := &model{c: c, shut: map[string]int{}, requests: map[string]string{}}
	for p, e := start, api.OK; e == api.OK; p, e = fiscal.Next(c, p) {
		m.periods = append(m.periods, p)
	}
	for _, entity := range entities {
		m.shut[entity] = 0
	}
	return m
}

// do performs ActClose, ActAsk or ActReopen, as the chapter describes it.
func (m *model) do(kind int, entity, user string) api.Errno {
	n, known := m.shut[entity]
	asker := m.requests[entity]
	switch {
	case !known:
		return api.ErrNone
	case user == "!":
		return api.ErrName
	case kind == api.ActClose && n == len(m.periods)-1:
		return api.ErrPeriod
	case kind == api.ActAsk && n == 0, kind == api.ActReopen && asker == "":
		return api.ErrState
	case kind == api.ActReopen && asker == user:
		return api.ErrUser
	}
	event := api.Event{Kind: kind, Entity: entity, User: user}
	switch kind {
	case api.ActClose:
		event.Period = m.periods[n]
		m.shut[entity], m.requests[entity] = n+1, ""
	case api.ActAsk:
		event.Period = m.periods[n-1]
		m.requests[entity] = user
	case api.ActReopen:
		event.Period = m.periods[n-1]
		m.shut[entity], m.requests[entity] = n-1, ""
	}
	m.events = append(m.events, event)
	return api.OK
}

// check fails if the control and the model differ.
func (m *model) check(t *testing.T, k *locks.Locks) {
	t.Helper()
	for entity, n := range m.shut {
		if p, e := k.First(entity); p != m.periods[n] || e != api.OK {
			t.Fatalf("First(%s) = %v, %d, want %v, after %v", entity, p, e, m.periods[n], m.events)
		}
		for i, p := range m.periods {
			if i > n+2 {
				break
			}
			state, allowed := api.Open, api.OK
			if i < n {
				state, allowed = api.Shut, api.ErrPeriod
			}
			kind := api.Normal
			if p.No == 13 {
				kind = api.Adjust
			}
			day, _, _ := fiscal.Span(m.c, p)
			if s, e := k.State(entity, p), k.Allow(entity, day, kind); s != state || e != allowed {
				t.Fatalf("State(%s, %v) = %d, Allow = %d, want %d, %d, after %v", entity, p, s, e, state, allowed, m.events)
			}
		}
	}
	if !slices.Equal(k.Events(), m.events) {
		t.Fatalf("Events() = %v, want %v", k.Events(), m.events)
	}
}

// checkControl fails if a period was reopened without the request of another user after it was shut.
func checkControl(t *testing.T, events []api.Event) {
	t.Helper()
	for i, reopened := range events {
		if reopened.Kind != api.ActReopen {
			continue
		}
		asked := slices.IndexFunc(backwards(events[:i]), func(x api.Event) bool { return x.Entity == reopened.Entity })
		if x := backwards(events[:i])[max(asked, 0)]; asked < 0 || x.Kind != api.ActAsk || x.Period != reopened.Period || x.User == reopened.User {
			t.Fatalf("%v follows %v", reopened, x)
		}
	}
}

// backwards returns the events in the opposite order.
func backwards(l []api.Event) []api.Event {
	c := slices.Clone(l)
	slices.Reverse(c)
	return c
}

// P16.2 to P16.7: random calls for several entities, compared with the model after each of them.
func TestRandomCalls(t *testing.T) {
	r := rand.New(rand.NewSource(16))
	entities, users := []string{"a", "b", "c", "d"}, []string{"u", "v", "w", "!"}
	counts := map[[2]int]int{}
	for round := range 200 {
		c := api.Calendar{First: 1 + r.Intn(12)}
		start := period(2024, 1+r.Intn(13))
		if round%3 == 0 {
			start = period(2198, 13)
			c.First = 1 + 11*r.Intn(2)
		}
		k := build(t, c, start, "c", "a", "b")
		m := newModel(c, start, "a", "b", "c")
		calls := map[int]func(entity, user string) api.Errno{api.ActClose: k.Close, api.ActAsk: k.Ask, api.ActReopen: k.Reopen}
		for range 120 {
			kind := []int{api.ActClose, api.ActAsk, api.ActReopen}[r.Intn(3)]
			entity, user := entities[r.Intn(4)], users[r.Intn(4)]
			wanted := m.do(kind, entity, user)
			if e := calls[kind](entity, user); e != wanted {
				t.Fatalf("act %d for %s by %s returns %d, want %d, after %v", kind, entity, user, e, wanted, m.events)
			}
			counts[[2]int{kind, int(wanted)}]++
			m.check(t, k)
		}
		checkControl(t, k.Events())
	}
	for _, c := range [][2]int{
		{api.ActClose, int(api.OK)}, {api.ActAsk, int(api.OK)}, {api.ActReopen, int(api.OK)}, {api.ActClose, int(api.ErrPeriod)}, {api.ActAsk, int(api.ErrState)}, {api.ActReopen, int(api.ErrState)}, {api.ActReopen, int(api.ErrUser)},
	} {
		if counts[c] < 50 {
			t.Errorf("act %d returned %d only %d times", c[0], c[1], counts[c])
		}
	}
}
