package fiscal_test

import (
	"fmt"
	"math"
	"testing"
	"time"

	"accounting/api"
	"accounting/days"
	"accounting/fiscal"
)

const most, least = math.MaxInt, math.MinInt

// dayZero is the day 0 in the library's calendar.
var dayZero = time.Date(1900, time.January, 1, 0, 0, 0, 0, time.UTC)

// dayOf returns the day of a date, whose month and day need not be in their ranges.
func dayOf(y, m, d int) int {
	const secondsOfDay = 24 * 60 * 60 // a time.Duration would be too short
	at := time.Date(y, time.Month(m), d, 0, 0, 0, 0, time.UTC)
	return int(at.Unix()-dayZero.Unix()) / secondsOfDay
}

// lastYear returns the last fiscal year of a calendar: only one that begins in January ends before the year 2200.
func lastYear(c api.Calendar) int {
	if c.First == 1 {
		return 2199
	}
	return 2198
}

// calendars are all valid calendars.
func calendars() []api.Calendar {
	var l []api.Calendar
	for first := 1; first <= 12; first++ {
		l = append(l, api.Calendar{First: first})
	}
	return l
}

// wrongCalendars are calendars that are not valid.
func wrongCalendars() []api.Calendar {
	return []api.Calendar{{}, {First: -1}, {First: 13}, {First: most}, {First: least}}
}

// periods are all periods of a calendar, in order.
func periods(c api.Calendar) []api.Period {
	var l []api.Period
	for y := 1900; y <= lastYear(c); y++ {
		for no := 1; no <= 13; no++ {
			l = append(l, api.Period{Year: y, No: no})
		}
	}
	return l
}

// missing are periods that do not exist in a calendar.
func missing(c api.Calendar) []api.Period {
	last := lastYear(c)
	return []api.Period{
		{}, {Year: 2000, No: 0}, {Year: 2000, No: 14}, {Year: 2000, No: -1}, {Year: 2000, No: most}, {Year: 2000, No: least},
		{Year: 1899, No: 1}, {Year: 1899, No: 12}, {Year: 1899, No: 13}, {Year: last + 1, No: 1}, {Year: last + 1, No: 13}, {Year: last, No: 14}, {Year: 1900, No: 0},
		{Year: 2200, No: 1}, {Year: -1, No: 1}, {Year: most, No: 1}, {Year: most, No: 13}, {Year: least, No: 1}, {Year: least, No: 13}, {Year: most, No: most}, {Year: least, No: least},
	}
}

// P5.1
func TestRight(t *testing.T) {
	for _, c := range calendars() {
		if !fiscal.Right(c) {
			t.Errorf("Right(%v) is false", c)
		}
	}
	for _, c := range wrongCalendars() {
		if fiscal.Right(c) {
			t.Errorf("Right(%v) is true", c)
		}
	}
}

// P5.1
func TestSpan(t *testing.T) {
	for _, c := range calendars() {
		for _, p := range periods(c) {
			first := dayOf(p.Year, c.First+p.No-1, 1)
			last := dayOf(p.Year, c.First+p.No, 0)
			if p.No == 13 {
				last = first - 1
				first = last
			}
			if a, b, e := fiscal.Span(c, p); a != first || b != last || e != api.OK {
				t.Fatalf("Span(%v, %v) = %d, %d, %d, want %d, %d", c, p, a, b, e, first, last)
			}
		}
		for _, p := range missing(c) {
			if a, b, e := fiscal.Span(c, p); a != 0 || b != 0 || e != api.ErrPeriod {
				t.Errorf("Span(%v, %v) = %d, %d, %d, want ErrPeriod", c, p, a, b, e)
			}
		}
	}
}

// P5.1
func TestSpanExamples(t *testing.T) {
	for _, x := range []struct {
		first       int
		p           api.Period
		from, until int
	}{
		{4, api.Period{Year: 2026, No: 1}, 46111, 46140}, {4, api.Period{Year: 2026, No: 13}, 46475, 46475}, {4, api.Period{Year: 2026, No: 12}, 46445, 46475},
		{1, api.Period{Year: 1900, No: 1}, 0, 30}, {1, api.Period{Year: 2199, No: 12}, api.MaxDay - 30, api.MaxDay}, {1, api.Period{Year: 2199, No: 13}, api.MaxDay, api.MaxDay},
		{12, api.Period{Year: 1900, No: 1}, 334, 364}, {2, api.Period{Year: 2198, No: 13}, api.MaxDay - 334, api.MaxDay - 334},
	} {
		c := api.Calendar{First: x.first}
		if a, b, e := fiscal.Span(c, x.p); a != x.from || b != x.until || e != api.OK {
			t.Errorf("Span(%v, %v) = %d, %d, %d, want %d, %d", c, x.p, a, b, e, x.from, x.until)
		}
	}
}

// outside returns ErrPeriod for the days before the first and after the last fiscal year of a calendar.
func outside(c api.Calendar, day int) api.Errno {
	if day < dayOf(1900, c.First, 1) || day >= dayOf(lastYear(c)+1, c.First, 1) {
		return api.ErrPeriod
	}
	return api.OK
}

// P5.1, P5.2
func TestEveryDayHasItsPeriod(t *testing.T) {
	for _, c := range calendars() {
		for day := range api.MaxDay + 1 {
			at := dayZero.AddDate(0, 0, day)
			// The months before the first one belong to the fiscal year that began a calendar year earlier.
			begin := at.AddDate(0, 0, 1-at.Day()).AddDate(0, 1-c.First, 0)
			want, wantE := api.Period{Year: begin.Year(), No: int(begin.Month())}, outside(c, day)
			closing := want
			if at.AddDate(0, 0, 1).Day() == 1 && want.No == 12 {
				closing.No = 13
			}
			if wantE != api.OK {
				want, closing = api.Period{}, api.Period{}
			}
			if p, e := fiscal.Of(c, day); p != want || e != wantE {
				t.Fatalf("Of(%v, %d) = %v, %d, want %v, %d", c, day, p, e, want, wantE)
			}
			if p, e := fiscal.For(c, day, api.Normal); p != want || e != wantE {
				t.Fatalf("For(%v, %d, Normal) = %v, %d, want %v, %d", c, day, p, e, want, wantE)
			}
			if p, e := fiscal.For(c, day, api.Adjust); p != closing || e != wantE {
				t.Fatalf("For(%v, %d, Adjust) = %v, %d, want %v, %d", c, day, p, e, closing, wantE)
			}
		}
	}
}

// P5.2
func TestForKinds(t *testing.T) {
	april := api.Calendar{First: 4}
	for _, kind := range []int{api.Normal, api.Opening, api.Adjust, api.YearEnd, api.Reversal, api.Revalue, api.Recost, 0, -1, 8, most, least} {
		special := kind == api.Adjust || kind == api.YearEnd
		for _, x := range []struct {
			c             api.Calendar
			day           int
			period, other api.Period
		}{
			{april, 46475, api.Period{Year: 2026, No: 12}, api.Period{Year: 2026, No: 13}},
			{april, 46474, api.Period{Year: 2026, No: 12}, api.Period{Year: 2026, No: 12}},
			{april, 46476, api.Period{Year: 2027, No: 1}, api.Period{Year: 2027, No: 1}},
			{april, 46140, api.Period{Year: 2026, No: 1}, api.Period{Year: 2026, No: 1}},
			{api.Calendar{First: 1}, api.MaxDay, api.Period{Year: 2199, No: 12}, api.Period{Year: 2199, No: 13}},
			{api.Calendar{First: 3}, dayOf(2000, 2, 29), api.Period{Year: 1999, No: 12}, api.Period{Year: 1999, No: 13}},
			{api.Calendar{First: 3}, dayOf(2000, 2, 28), api.Period{Year: 1999, No: 12}, api.Period{Year: 1999, No: 12}},
		} {
			want := x.period
			if special {
				want = x.other
			}
			if p, e := fiscal.For(x.c, x.day, kind); p != want || e != api.OK {
				t.Errorf("For(%v, %d, %d) = %v, %d, want %v", x.c, x.day, kind, p, e, want)
			}
		}
	}
}

// P5.1, P5.2
func TestErrorsOfDays(t *testing.T) {
	notDays := []int{-1, api.MaxDay + 1, most, least}
	for _, c := range append(calendars(), wrongCalendars()...) {
		for _, day := range append(notDays, 0, 89, 40000, api.MaxDay) {
			want := api.OK
			switch {
			case !fiscal.Right(c):
				want = api.ErrArg
			case day < 0 || day > api.MaxDay:
				want = api.ErrDate
			default:
				want = outside(c, day)
			}
			p, e := fiscal.Of(c, day)
			if e != want || e != api.OK && p != (api.Period{}) {
				t.Errorf("Of(%v, %d) = %v, %d, want error %d", c, day, p, e, want)
			}
			for _, kind := range []int{api.Normal, api.Adjust, api.YearEnd} {
				if q, f := fiscal.For(c, day, kind); f != want || f != api.OK && q != (api.Period{}) {
					t.Errorf("For(%v, %d, %d) = %v, %d, want error %d", c, day, kind, q, f, want)
				}
			}
		}
	}
}

// P5.3
func TestSteps(t *testing.T) {
	for _, c := range calendars() {
		l := periods(c)
		for i, p := range l {
			next, nextE := api.Period{}, api.ErrPeriod
			if i+1 < len(l) {
				next, nextE = l[i+1], api.OK
			}
			prev, prevE := api.Period{}, api.ErrPeriod
			if i > 0 {
				prev, prevE = l[i-1], api.OK
			}
			if q, e := fiscal.Next(c, p); q != next || e != nextE {
				t.Fatalf("Next(%v, %v) = %v, %d, want %v, %d", c, p, q, e, next, nextE)
			}
			if q, e := fiscal.Prev(c, p); q != prev || e != prevE {
				t.Fatalf("Prev(%v, %v) = %v, %d, want %v, %d", c, p, q, e, prev, prevE)
			}
			for _, j := range []int{0, i, len(l) / 2, len(l) - 1} {
				if n, e := fiscal.Count(c, p, l[j]); n != j-i || e != api.OK {
					t.Fatalf("Count(%v, %v, %v) = %d, %d, want %d", c, p, l[j], n, e, j-i)
				}
			}
		}
	}
}

// P5.3
func TestStepsFromMissingPeriods(t *testing.T) {
	there := api.Period{Year: 2000, No: 5}
	for _, c := range calendars() {
		for _, p := range missing(c) {
			q, next := fiscal.Next(c, p)
			r, prev := fiscal.Prev(c, p)
			n, from := fiscal.Count(c, p, there)
			m, to := fiscal.Count(c, there, p)
			k, both := fiscal.Count(c, p, p)
			if next != api.ErrPeriod || prev != api.ErrPeriod || from != api.ErrPeriod || to != api.ErrPeriod || both != api.ErrPeriod {
				t.Errorf("%v, %v: errors %d, %d, %d, %d, %d, want ErrPeriod", c, p, next, prev, from, to, both)
			}
			if q != (api.Period{}) || r != (api.Period{}) || n != 0 || m != 0 || k != 0 {
				t.Errorf("%v, %v: results %v, %v, %d, %d, %d with an error", c, p, q, r, n, m, k)
			}
		}
	}
}

// P5.1 to P5.3
func TestWrongCalendarComesFirst(t *testing.T) {
	for _, c := range wrongCalendars() {
		for _, p := range []api.Period{{Year: 2000, No: 5}, {Year: 2000, No: 14}, {Year: 1899, No: 1}, {Year: most, No: least}} {
			a, b, span := fiscal.Span(c, p)
			q, next := fiscal.Next(c, p)
			r, prev := fiscal.Prev(c, p)
			n, count := fiscal.Count(c, p, p)
			if span != api.ErrArg || next != api.ErrArg || prev != api.ErrArg || count != api.ErrArg {
				t.Errorf("%v, %v: errors %d, %d, %d, %d, want ErrArg", c, p, span, next, prev, count)
			}
			if a != 0 || b != 0 || q != (api.Period{}) || r != (api.Period{}) || n != 0 {
				t.Errorf("%v, %v: results %d, %d, %v, %v, %d with an error", c, p, a, b, q, r, n)
			}
		}
	}
}

// P5.3
func TestCmp(t *testing.T) {
	// In order; most of them do not exist.
	l := []api.Period{
		{Year: least, No: least}, {Year: least, No: most}, {Year: -1, No: 13}, {}, {Year: 0, No: 1}, {Year: 2000, No: least}, {Year: 2000, No: 0}, {Year: 2000, No: 1},
		{Year: 2000, No: 13}, {Year: 2000, No: most}, {Year: 2001, No: least}, {Year: 2001, No: 1}, {Year: 2001, No: 2}, {Year: most, No: least}, {Year: most, No: most},
	}
	for i, p := range l {
		for j, q := range l {
			want := 0
			if i < j {
				want = -1
			} else if i > j {
				want = 1
			}
			if sign := fiscal.Cmp(p, q); sign != want {
				t.Errorf("Cmp(%v, %v) = %d, want %d", p, q, sign, want)
			}
		}
	}
}

// P5.4
func TestTextAndBack(t *testing.T) {
	for year := 1890; year <= 2210; year++ {
		for no := -1; no <= 15; no++ {
			p := api.Period{Year: year, No: no}
			if year < 1900 || year > 2199 || no < 1 || no > 13 {
				if s, e := fiscal.Text(p); s != "" || e != api.ErrPeriod {
					t.Errorf("Text(%v) = %q, %d, want ErrPeriod", p, s, e)
				}
				continue
			}
			want := fmt.Sprintf("%04d-%02d", year, no)
			if s, e := fiscal.Text(p); s != want || e != api.OK {
				t.Errorf("Text(%v) = %q, %d, want %q", p, s, e, want)
			}
			if q, e := fiscal.Parse(want); q != p || e != api.OK {
				t.Errorf("Parse(%q) = %v, %d, want %v", want, q, e, p)
			}
		}
	}
	for _, p := range []api.Period{{Year: most, No: 1}, {Year: least, No: 1}, {Year: 2000, No: most}, {Year: 2000, No: least}, {Year: 12000, No: 1}} {
		if s, e := fiscal.Text(p); s != "" || e != api.ErrPeriod {
			t.Errorf("Text(%v) = %q, %d, want ErrPeriod", p, s, e)
		}
	}
}

// P5.4
func TestParseErrors(t *testing.T) {
	for _, s := range []string{"2026-14", "2026-00", "2026-99", "1899-12", "1899-13", "2200-01", "0000-00", "9999-01", "0001-01"} {
		if p, e := fiscal.Parse(s); p != (api.Period{}) || e != api.ErrPeriod {
			t.Errorf("Parse(%q) = %v, %d, want ErrPeriod", s, p, e)
		}
	}
	for _, s := range []string{
		"", "-", "2026-3", "2026-", "2026", "202603", "2026-003", "2026-03 ", " 2026-03", "2026/03", "2026 03", "20260-3", "202-003", "026-003", "2026-0a", "2026-a3", "a026-03", "202x-14",
		"2026-+3", "2026--3", "+026-03", "-026-03", "2026-/3", "2026-0:", "2026-03\x00", "2026-0\xff", "２26-03", "20２-03", "2026-３", "-------", "2026-1.", "2026-14x", "9999-9x",
	} {
		if p, e := fiscal.Parse(s); p != (api.Period{}) || e != api.ErrForm {
			t.Errorf("Parse(%q) = %v, %d, want ErrForm", s, p, e)
		}
	}
}

// P5.1 to P5.4
func TestExamples(t *testing.T) {
	c := api.Calendar{First: 4}
	march, _ := days.Parse("2025-03-31")
	p, e := fiscal.Of(c, march)
	q, f := fiscal.For(c, march, api.Adjust)
	if p != (api.Period{Year: 2024, No: 12}) || q != (api.Period{Year: 2024, No: 13}) || e != api.OK || f != api.OK {
		t.Errorf("31 March 2025: %v, %v, %d, %d", p, q, e, f)
	}
	if p, e := fiscal.Of(c, 46110); p != (api.Period{Year: 2025, No: 12}) || e != api.OK {
		t.Errorf("Of(46110) = %v, %d", p, e)
	}
	if _, e := fiscal.Of(c, 0); e != api.ErrPeriod {
		t.Errorf("Of(0): %d", e)
	}
	if q, e := fiscal.Next(c, api.Period{Year: 2026, No: 13}); q != (api.Period{Year: 2027, No: 1}) || e != api.OK {
		t.Errorf("Next = %v, %d", q, e)
	}
	if n, e := fiscal.Count(c, api.Period{Year: 2026, No: 1}, api.Period{Year: 2027, No: 1}); n != 13 || e != api.OK {
		t.Errorf("Count = %d, %d", n, e)
	}
	if s, e := fiscal.Text(api.Period{Year: 2025, No: 12}); s != "2025-12" || e != api.OK {
		t.Errorf("Text = %q, %d", s, e)
	}
}
