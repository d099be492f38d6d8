package days_test

import (
	"math"
	"testing"
	"time"

	"accounting/api"
	"accounting/days"
)

// outside are integers that are not days.
func outside() []int {
	return []int{-1, -2, -365, api.MaxDay + 1, api.MaxDay + 365, math.MaxInt, math.MinInt, math.MinInt + 1}
}

// every calls do with each day and its time in the library's calendar.
func every(do func(n int, at time.Time)) {
	at := time.Date(1900, time.January, 1, 0, 0, 0, 0, time.UTC)
	for n := range api.MaxDay + 1 {
		do(n, at)
		at = at.AddDate(0, 0, 1)
	}
}

func dateOf(at time.Time) api.Date {
	return api.Date{Y: at.Year(), M: int(at.Month()), D: at.Day()}
}

// P4.1
func TestEveryDayHasItsDate(t *testing.T) {
	every(func(n int, at time.Time) {
		want := dateOf(at)
		if d, e := days.Date(n); d != want || e != api.OK {
			t.Fatalf("Date(%d) = %v, %d, want %v", n, d, e, want)
		}
		if m, e := days.Of(want); m != n || e != api.OK {
			t.Fatalf("Of(%v) = %d, %d, want %d", want, m, e, n)
		}
	})
}

// P4.1
func TestDatesThatDoNotExist(t *testing.T) {
	const most, least = math.MaxInt, math.MinInt
	for _, d := range []api.Date{
		{}, {Y: 1899, M: 12, D: 31}, {Y: 2200, M: 1, D: 1}, {Y: 1900, M: 2, D: 29}, {Y: 2100, M: 2, D: 29}, {Y: 2001, M: 2, D: 29}, {Y: 2000, M: 2, D: 30}, {Y: 2024, M: 4, D: 31},
		{Y: 2024, M: 13, D: 1}, {Y: 2024, M: 0, D: 1}, {Y: 2024, M: -1, D: 1}, {Y: 2024, M: 4, D: 0}, {Y: 2024, M: 4, D: -1}, {Y: 2199, M: 12, D: 32}, {Y: 2199, M: 13, D: 1}, {Y: 1900, M: 1, D: 0},
		{Y: most, M: 1, D: 1}, {Y: least, M: 1, D: 1}, {Y: 2024, M: most, D: 1}, {Y: 2024, M: least, D: 1}, {Y: 2024, M: 1, D: most}, {Y: 2024, M: 1, D: least}, {Y: most, M: most, D: most}, {Y: -2000, M: 1, D: 1},
	} {
		if n, e := days.Of(d); n != 0 || e != api.ErrDate {
			t.Errorf("Of(%v) = %d, %d, want ErrDate", d, n, e)
		}
	}
	for _, n := range outside() {
		if d, e := days.Date(n); d != (api.Date{}) || e != api.ErrDate {
			t.Errorf("Date(%d) = %v, %d, want ErrDate", n, d, e)
		}
	}
}

// P4.1
func TestOnlyRealDatesHaveDays(t *testing.T) {
	count := 0
	for y := 1890; y <= 2210; y++ {
		for m := -1; m <= 14; m++ {
			for d := -1; d <= 33; d++ {
				if _, e := days.Of(api.Date{Y: y, M: m, D: d}); e == api.OK {
					count++
				}
			}
		}
	}
	if count != api.MaxDay+1 {
		t.Errorf("%d dates have a day, want %d", count, api.MaxDay+1)
	}
}

// P4.2
func TestLeap(t *testing.T) {
	for y, want := range map[int]bool{
		1900: false, 2000: true, 2023: false, 2024: true, 2100: false, 2200: false, 2400: true, 4: true, 0: true, 100: false, 400: true,
		-4: true, -1: false, -100: false, -400: true, -3: false, math.MaxInt: false, math.MinInt: true, math.MaxInt - 3: true, math.MinInt + 1: false,
	} {
		if days.Leap(y) != want {
			t.Errorf("Leap(%d) is %v", y, !want)
		}
	}
	for y := -1000; y <= 3000; y++ {
		feb29 := time.Date(y, time.February, 29, 0, 0, 0, 0, time.UTC)
		if want := feb29.Day() == 29; days.Leap(y) != want {
			t.Errorf("Leap(%d) is %v", y, !want)
		}
	}
}

// P4.2
func TestLength(t *testing.T) {
	for y := -410; y <= 2410; y++ {
		for m := 1; m <= 12; m++ {
			want := time.Date(y, time.Month(m+1), 0, 0, 0, 0, 0, time.UTC).Day()
			if n := days.Length(y, m); n != want {
				t.Errorf("Length(%d, %d) = %d, want %d", y, m, n, want)
			}
		}
		for _, m := range []int{0, -1, 13, 14, math.MaxInt, math.MinInt} {
			if n := days.Length(y, m); n != 0 {
				t.Errorf("Length(%d, %d) = %d, want 0", y, m, n)
			}
		}
	}
	if days.Length(math.MinInt, 2) != 29 || days.Length(math.MaxInt, 2) != 28 || days.Length(math.MaxInt, 12) != 31 {
		t.Error("Length of distant years")
	}
}

// P4.2
func TestWeekday(t *testing.T) {
	every(func(n int, at time.Time) {
		want := (int(at.Weekday()) + 6) % 7
		if w := days.Weekday(n); w != want {
			t.Fatalf("Weekday(%d) = %d, want %d", n, w, want)
		}
	})
	for _, n := range outside() {
		if w := days.Weekday(n); w != -1 {
			t.Errorf("Weekday(%d) = %d, want -1", n, w)
		}
	}
}

// P4.3
func TestAddMonths(t *testing.T) {
	shifts := []int{0, 1, -1, 2, 6, -11, 12, -12, 13, 48, -25, 1200, -1200, 3599, -3599, 3600, -3600}
	every(func(n int, at time.Time) {
		for _, k := range shifts {
			first := time.Date(at.Year(), at.Month()+time.Month(k), 1, 0, 0, 0, 0, time.UTC)
			length := time.Date(first.Year(), first.Month()+1, 0, 0, 0, 0, 0, time.UTC).Day()
			want, wantE := days.Of(api.Date{Y: first.Year(), M: int(first.Month()), D: min(at.Day(), length)})
			if m, e := days.AddMonths(n, k); m != want || e != wantE {
				t.Fatalf("AddMonths(%d, %d) = %d, %d, want %d, %d", n, k, m, e, want, wantE)
			}
		}
	})
}

// P4.3
func TestAddMonthsAtTheEdges(t *testing.T) {
	for _, c := range []struct {
		n, k, m int
		e       api.Errno
	}{
		{36583, 12, 36948, api.OK}, {30, 1, 58, api.OK}, {0, 0, 0, api.OK}, {0, -1, 0, api.ErrDate}, {30, -1, 0, api.ErrDate}, {31, -1, 0, api.OK},
		{api.MaxDay, 0, api.MaxDay, api.OK}, {api.MaxDay, 1, 0, api.ErrDate}, {api.MaxDay, -3599, 30, api.OK}, {api.MaxDay, -3600, 0, api.ErrDate}, {30, 3599, api.MaxDay, api.OK}, {30, 3600, 0, api.ErrDate},
		{0, math.MaxInt, 0, api.ErrDate}, {0, math.MinInt, 0, api.ErrDate}, {api.MaxDay, math.MaxInt, 0, api.ErrDate}, {api.MaxDay, math.MinInt, 0, api.ErrDate}, {40000, 1 << 62, 0, api.ErrDate},
		{-1, 0, 0, api.ErrDate}, {-1, 12, 0, api.ErrDate}, {api.MaxDay + 1, 0, 0, api.ErrDate}, {api.MaxDay + 1, -12, 0, api.ErrDate}, {math.MaxInt, math.MinInt, 0, api.ErrDate}, {math.MinInt, math.MaxInt, 0, api.ErrDate},
	} {
		if m, e := days.AddMonths(c.n, c.k); m != c.m || e != c.e {
			t.Errorf("AddMonths(%d, %d) = %d, %d, want %d, %d", c.n, c.k, m, e, c.m, c.e)
		}
	}
}

// P4.3
func TestMonthEnd(t *testing.T) {
	end := -1
	every(func(n int, at time.Time) {
		if n > end {
			next := time.Date(at.Year(), at.Month()+1, 1, 0, 0, 0, 0, time.UTC)
			end = n + int(next.Sub(at).Hours())/24 - 1
		}
		if m, e := days.MonthEnd(n); m != end || e != api.OK {
			t.Fatalf("MonthEnd(%d) = %d, %d, want %d", n, m, e, end)
		}
	})
	for _, n := range outside() {
		if m, e := days.MonthEnd(n); m != 0 || e != api.ErrDate {
			t.Errorf("MonthEnd(%d) = %d, %d, want ErrDate", n, m, e)
		}
	}
}

// P4.4
func TestTextAndBack(t *testing.T) {
	every(func(n int, at time.Time) {
		want := at.Format("2006-01-02")
		if s, e := days.Text(n); s != want || e != api.OK {
			t.Fatalf("Text(%d) = %q, %d, want %q", n, s, e, want)
		}
		if m, e := days.Parse(want); m != n || e != api.OK {
			t.Fatalf("Parse(%q) = %d, %d, want %d", want, m, e, n)
		}
	})
	for _, n := range outside() {
		if s, e := days.Text(n); s != "" || e != api.ErrDate {
			t.Errorf("Text(%d) = %q, %d, want ErrDate", n, s, e)
		}
	}
}

// P4.4
func TestParseErrors(t *testing.T) {
	for _, s := range []string{"2001-02-29", "1899-12-31", "2200-01-01", "2020-13-01", "2020-00-01", "2020-01-00", "2020-01-32", "0000-00-00", "9999-12-31", "0001-01-01", "2020-99-99"} {
		if n, e := days.Parse(s); n != 0 || e != api.ErrDate {
			t.Errorf("Parse(%q) = %d, %d, want ErrDate", s, n, e)
		}
	}
	for _, s := range []string{
		"", "2001-2-28", "2020-1-011", "2020-01-1", "2020-01-011", "20200-1-01", "20200101", "2020/01/01", "2020-01/01", "2020/01-01", "2020-01-01 ", " 2020-01-01", "2020-01-0a", "a020-01-01", "2020-b1-01",
		"2020-0:-01", "2020-/1-01", "+020-01-01", "-020-01-01", "2020--1-01", "2020-01--1", "2020-01-+1", "2020-1 -01", "2020-01-01\x00", "2020-01-\xff1", "２020-01-01", "----------", "2020\xe2\x80\x9001", "2001-02-2９",
	} {
		if n, e := days.Parse(s); n != 0 || e != api.ErrForm {
			t.Errorf("Parse(%q) = %d, %d, want ErrForm", s, n, e)
		}
	}
}
