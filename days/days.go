// Package days implements calendar days. It is layer 4: see shared/doc/04-days.md.
package days

import (
	"accounting/api"
	"accounting/num"
)

// The years of the calendar.
const (
	firstYear = 1900
	lastYear  = 2199
)

// lengths holds the lengths of the months of a year that is not a leap year.
var lengths = [12]int{31, 28, 31, 30, 31, 30, 31, 31, 30, 31, 30, 31}

// Of returns the day of a date: ErrDate if there is none.
func Of(d api.Date) (n int, e api.Errno) {
	if !exists(d) {
		return 0, api.ErrDate
	}
	n = yearStart(d.Y)
	for m := 1; m < d.M; m++ {
		n += Length(d.Y, m)
	}
	return n + d.D - 1, api.OK
}

// Date returns the date of a day: ErrDate if n is not a day.
func Date(n int) (d api.Date, e api.Errno) {
	if !isDay(n) {
		return api.Date{}, api.ErrDate
	}
	// No year is longer than 366 days, so the search starts at the year of n or before it.
	d = api.Date{Y: firstYear + n/366, M: 1}
	for yearStart(d.Y+1) <= n {
		d.Y++
	}
	rest := n - yearStart(d.Y)
	for rest >= Length(d.Y, d.M) {
		rest -= Length(d.Y, d.M)
		d.M++
	}
	d.D = rest + 1
	return d, api.OK
}

// Leap reports whether y is a leap year.
func Leap(y int) (yes bool) {
	return y%4 == 0 && y%100 != 0 || y%400 == 0
}

// Length returns the number of days of month m of year y, or 0 if there is no such month.
func Length(y, m int) (n int) {
	if m < 1 || m > len(lengths) {
		return 0
	}
	if m == 2 && Leap(y) {
		return lengths[1] + 1
	}
	return lengths[m-1]
}

// Weekday returns 0 for Monday to 6 for Sunday, or -1 if n is not a day.
func Weekday(n int) (w int) {
	if !isDay(n) {
		return -1
	}
	return n % 7
}

// AddMonths returns the day k months after n, or the last day of that month if it is too short: ErrDate if n or the result is not a day.
func AddMonths(n, k int) (m int, e api.Errno) {
	d, e := Date(n)
	if e != api.OK {
		return 0, e
	}
	month, ok := num.Add((d.Y-firstYear)*12+d.M-1, k)
	if !ok || month < 0 {
		return 0, api.ErrDate
	}
	d.Y, d.M = firstYear+month/12, month%12+1
	d.D = num.Near(d.D, 1, Length(d.Y, d.M))
	return Of(d)
}

// MonthEnd returns the last day of the month of n: ErrDate if n is not a day.
func MonthEnd(n int) (m int, e api.Errno) {
	d, e := Date(n)
	if e != api.OK {
		return 0, e
	}
	d.D = Length(d.Y, d.M)
	return Of(d)
}

// Text returns the date of n as YYYY-MM-DD: ErrDate if n is not a day.
func Text(n int) (s string, e api.Errno) {
	d, e := Date(n)
	if e != api.OK {
		return "", e
	}
	return num.Text(d.Y) + "-" + twoDigits(d.M) + "-" + twoDigits(d.D), api.OK
}

// Parse returns the day of a date in the notation YYYY-MM-DD: ErrForm if s does not have this form, ErrDate if there is no such day.
func Parse(s string) (n int, e api.Errno) {
	if len(s) != len("YYYY-MM-DD") || s[4] != '-' || s[7] != '-' {
		return 0, api.ErrForm
	}
	y, yearOk := readDigits(s[:4])
	m, monthOk := readDigits(s[5:7])
	d, dayOk := readDigits(s[8:])
	if !yearOk || !monthOk || !dayOk {
		return 0, api.ErrForm
	}
	return Of(api.Date{Y: y, M: m, D: d})
}

// isDay reports whether n is a day.
func isDay(n int) bool {
	return n >= 0 && n <= api.MaxDay
}

// exists reports whether the calendar has the date d.
func exists(d api.Date) bool {
	if d.Y < firstYear || d.D < 1 || d.D > Length(d.Y, d.M) {
		return false
	}
	date, last := [3]int{d.Y, d.M, d.D}, [3]int{lastYear, 12, 31}
	return date == last || isBefore(date, last)
}

// isBefore reports whether the date a is earlier than the date b.
func isBefore(a, b [3]int) bool {
	for i := range a {
		if a[i] != b[i] {
			return a[i] < b[i]
		}
	}
	return false
}

// yearStart returns the number of days from the first day to 1 January of year y, which is not before the first year.
func yearStart(y int) int {
	return (y-firstYear)*365 + leapsBefore(y) - leapsBefore(firstYear)
}

// leapsBefore returns the number of leap years from year 1 to the year before y.
func leapsBefore(y int) int {
	y--
	return y/4 - y/100 + y/400
}

// twoDigits returns the decimal notation of n, which is in the range 0 to 99, with two digits.
func twoDigits(n int) string {
	if n < 10 {
		return "0" + num.Text(n)
	}
	return num.Text(n)
}

// readDigits returns the number that the few digits of s denote, leading zeros included, or false if s has other characters.
func readDigits(s string) (n int, ok bool) {
	for i := range len(s) {
		if s[i] < '0' || s[i] > '9' {
			return 0, false
		}
		n = n*10 + int(s[i]-'0')
	}
	return n, true
}
