package terms_test

import (
	"math"
	"math/big"
	"math/rand"
	"reflect"
	"regexp"
	"slices"
	"strconv"
	"strings"
	"testing"
	"time"

	"accounting/api"
	"accounting/terms"
)

const most, least, part = math.MaxInt, math.MinInt, api.MaxPart

// noDays are integers that are not days.
var noDays = []int{-1, api.MaxDay + 1, -api.MaxDay, most, least}

// cut returns a cut of n/d.
func cut(days, n, d int) api.Cut {
	return api.Cut{Days: days, F: api.Frac{N: n, D: d}}
}

// net returns terms with these cuts that count from the day of the document on.
func net(n int, l ...api.Cut) api.Terms {
	return api.Terms{Net: n, Cuts: l}
}

// eom returns terms with these cuts that count from the end of the month on.
func eom(n int, l ...api.Cut) api.Terms {
	return api.Terms{Net: n, Eom: true, Cuts: l}
}

// example are the terms of the chapter's first example.
func example() api.Terms {
	return net(30, cut(10, 3, 100), cut(20, 1, 50))
}

// same reports whether terms are equal, whether their cuts are nil or empty.
func same(a, b api.Terms) bool {
	return a.Net == b.Net && a.Eom == b.Eom && slices.Equal(a.Cuts, b.Cuts)
}

// copied returns terms that share no memory with t, and of which the memory behind the cuts can be seen.
func copied(t api.Terms) api.Terms {
	t.Cuts = slices.Clone(t.Cuts[:cap(t.Cuts)])
	return t
}

// valid are valid terms at the limits and between them, with their notations.
var valid = []struct {
	s string
	t api.Terms
}{
	{"net 0", net(0)}, {"net 7", net(7)}, {"net 365", net(365)}, {"eom 0", eom(0)}, {"eom 10", eom(10)}, {"eom 365", eom(365)},
	{"3/100 10 1/50 20 net 30", example()},
	{"1/10 0 1/20 365 eom 0", eom(0, cut(0, 1, 10), cut(365, 1, 20))},
	{"1/2 300 net 5", net(5, cut(300, 1, 2))},
	{"999999/1000000 0 1/1000000 1 net 365", net(365, cut(0, part-1, part), cut(1, 1, part))},
	{"499999/999997 8 500000/999999 9 net 9", net(9, cut(8, 499999, 999997), cut(9, 500000, 999999))},
	{"5/6 1 4/5 2 3/4 3 2/3 4 1/2 5 eom 6", eom(6, cut(1, 5, 6), cut(2, 4, 5), cut(3, 3, 4), cut(4, 2, 3), cut(5, 1, 2))},
}

// wrong are terms that are not valid.
func wrong() []api.Terms {
	l := []api.Terms{
		net(-1), net(366), net(most), net(least), eom(-1), eom(366), eom(most), eom(least),
		net(6, cut(1, 6, 7), cut(2, 5, 6), cut(3, 4, 5), cut(4, 3, 4), cut(5, 2, 3), cut(6, 1, 2)), net(1, make([]api.Cut, 6)...),
		net(1, cut(-1, 1, 2)), net(1, cut(366, 1, 2)), net(1, cut(most, 1, 2)), net(1, cut(least, 1, 2)),
		net(1, cut(5, 1, 2), cut(5, 1, 3)), net(1, cut(5, 1, 2), cut(4, 1, 3)), net(1, cut(5, 1, 2), cut(6, 1, 2)), net(1, cut(5, 1, 2), cut(6, 2, 3)),
		net(1, cut(1, 1, 2), cut(2, 1, 3), cut(3, 1, 4), cut(4, 1, 5), cut(4, 1, 6)), net(1, cut(1, 1, 2), cut(2, 1, 3), cut(3, 1, 4), cut(4, 1, 5), cut(5, 1, 5)),
		net(1, cut(1, 1, 2), cut(3, 1, 3), cut(2, 1, 4)), net(1, cut(1, 1, 2), cut(2, 1, 4), cut(3, 1, 3)), net(1, cut(1, 1, 2), cut(366, 1, 3)),
		net(1, cut(8, 500000, 999999), cut(9, 499999, 999997)),
	}
	for _, f := range []api.Frac{{}, {N: 0, D: 1}, {N: 1, D: 1}, {N: 2, D: 1}, {N: 3, D: 2}, {N: -1, D: 2}, {N: 1, D: -2}, {N: -1, D: -2}, {N: 2, D: 4}, {N: 1}, {N: 1, D: part + 1}, {N: part, D: part}, {N: part, D: part + 1}, {N: least, D: least}, {N: most, D: most}, {N: 1, D: most}, {N: 1, D: least}} {
		l = append(l, net(1, api.Cut{Days: 5, F: f}), eom(1, cut(1, part-1, part), api.Cut{Days: 5, F: f}))
	}
	return l
}

// P24.1
func TestRight(t *testing.T) {
	for _, c := range valid {
		if !terms.Right(c.t) {
			t.Errorf("Right(%v) is false", c.t)
		}
	}
	for _, x := range wrong() {
		given := copied(x)
		if terms.Right(x) {
			t.Errorf("Right(%v) is true", x)
		}
		if !same(x, given) {
			t.Errorf("Right changed its terms from %v to %v", given, x)
		}
	}
}

// P24.1 to P24.3: the chapter's examples.
func TestExamples(t *testing.T) {
	x, e := terms.Parse("3/100 10 1/50 20 net 30")
	if !same(x, example()) || e != api.OK {
		t.Fatalf("Parse = %v, %d", x, e)
	}
	if due, e := terms.Due(x, 46000); due != 46030 || e != api.OK {
		t.Errorf("Due = %d, %d", due, e)
	}
	for paid, f := range map[int]api.Frac{46015: {N: 1, D: 50}, 46021: {N: 0, D: 1}} {
		if got, e := terms.Cut(x, 46000, paid); got != f || e != api.OK {
			t.Errorf("Cut on day %d = %v, %d, want %v", paid, got, e, f)
		}
	}
	x, _ = terms.Parse("eom 10")
	if due, e := terms.Due(x, 45000); due != 45024 || e != api.OK {
		t.Errorf("Due = %d, %d", due, e)
	}
	if x, e := terms.Parse("0.03 10 net 30"); !same(x, api.Terms{}) || e != api.ErrForm {
		t.Errorf("Parse = %v, %d", x, e)
	}
}

// wantDue fails unless Due returns this day and this error.
func wantDue(t *testing.T, x api.Terms, day, due int, e api.Errno) {
	t.Helper()
	if n, f := terms.Due(x, day); n != due || f != e {
		t.Fatalf("Due(%v, %d) = %d, %d, want %d, %d", x, day, n, f, due, e)
	}
}

// P24.1: every day, with the calendar of package time.
func TestDue(t *testing.T) {
	first := time.Date(1900, 1, 1, 0, 0, 0, 0, time.UTC)
	for day := range api.MaxDay + 1 {
		date := first.AddDate(0, 0, day)
		end := day + time.Date(date.Year(), date.Month()+1, 0, 0, 0, 0, 0, time.UTC).Day() - date.Day()
		for _, n := range []int{0, 1, 30, 365} {
			for _, x := range []api.Terms{net(n), net(n, cut(200, 1, 2)), eom(n), eom(n, cut(200, 1, 2))} {
				due, e := day+n, api.OK
				if x.Eom {
					due = end + n
				}
				if due > api.MaxDay {
					due, e = 0, api.ErrDate
				}
				wantDue(t, x, day, due, e)
			}
		}
	}
}

// P24.1: the limits of the calendar, and the errors in their order.
func TestDueErrors(t *testing.T) {
	wantDue(t, net(365), api.MaxDay-365, api.MaxDay, api.OK)
	wantDue(t, net(365), api.MaxDay-364, 0, api.ErrDate)
	wantDue(t, net(0), api.MaxDay, api.MaxDay, api.OK)
	wantDue(t, net(1), api.MaxDay, 0, api.ErrDate)
	wantDue(t, eom(0), api.MaxDay-30, api.MaxDay, api.OK)
	wantDue(t, eom(1), api.MaxDay-30, 0, api.ErrDate)
	wantDue(t, eom(31), api.MaxDay-31, api.MaxDay, api.OK)
	wantDue(t, eom(32), api.MaxDay-31, 0, api.ErrDate)
	wantDue(t, net(0), 0, 0, api.OK)
	wantDue(t, eom(0), 0, 30, api.OK)
	for _, day := range noDays {
		for _, c := range valid {
			wantDue(t, c.t, day, 0, api.ErrDate)
		}
	}
	// With these Net days the result would be a day.
	wantDue(t, net(1), -1, 0, api.ErrDate)
	wantDue(t, eom(365), -1, 0, api.ErrDate)
	for _, x := range wrong() {
		for _, day := range append([]int{0, 46000, api.MaxDay}, noDays...) {
			wantDue(t, x, day, 0, api.ErrArg)
		}
	}
}

// wantCut fails unless Cut returns this fraction and this error.
func wantCut(t *testing.T, x api.Terms, day, paid int, f api.Frac, e api.Errno) {
	t.Helper()
	if g, h := terms.Cut(x, day, paid); g != f || h != e {
		t.Errorf("Cut(%v, %d, %d) = %v, %d, want %v, %d", x, day, paid, g, h, f, e)
	}
}

// P24.2
func TestCut(t *testing.T) {
	none := api.Frac{N: 0, D: 1}
	five := valid[len(valid)-1].t
	for _, day := range []int{0, 1, 300, 46000, api.MaxDay - 6, api.MaxDay - 5} {
		for i, c := range five.Cuts {
			wantCut(t, five, day, day+i+1, c.F, api.OK)
		}
		wantCut(t, five, day, day, five.Cuts[0].F, api.OK)
		wantCut(t, five, day, 0, five.Cuts[0].F, api.OK)
		wantCut(t, net(30), day, day, none, api.OK)
		wantCut(t, eom(365), day, 0, none, api.OK)
	}
	wantCut(t, five, 100, 106, none, api.OK)
	wantCut(t, five, 0, api.MaxDay, none, api.OK)
	// The first cut for which the payment comes in time counts, and it counts from the day of the document on.
	x := eom(0, cut(0, 9, 10), cut(100, 1, 2), cut(365, 1, 4))
	for paid, f := range map[int]api.Frac{999: {N: 9, D: 10}, 1000: {N: 9, D: 10}, 1001: {N: 1, D: 2}, 1100: {N: 1, D: 2}, 1101: {N: 1, D: 4}, 1365: {N: 1, D: 4}, 1366: none} {
		wantCut(t, x, 1000, paid, f, api.OK)
	}
	// A cut may end behind the last day.
	for _, day := range []int{api.MaxDay - 1, api.MaxDay} {
		wantCut(t, x, day, api.MaxDay, x.Cuts[api.MaxDay-day].F, api.OK)
		wantCut(t, net(1, cut(365, 1, 4)), day, api.MaxDay, api.Frac{N: 1, D: 4}, api.OK)
	}
}

// P24.2: the errors, in their order.
func TestCutErrors(t *testing.T) {
	for _, c := range valid {
		for _, day := range noDays {
			wantCut(t, c.t, day, 46000, api.Frac{}, api.ErrDate)
			wantCut(t, c.t, 46000, day, api.Frac{}, api.ErrDate)
			wantCut(t, c.t, day, day, api.Frac{}, api.ErrDate)
		}
	}
	for _, x := range wrong() {
		for _, day := range append([]int{46000}, noDays...) {
			wantCut(t, x, day, 46000, api.Frac{}, api.ErrArg)
			wantCut(t, x, 46000, day, api.Frac{}, api.ErrArg)
		}
	}
}

// P24.3
func TestText(t *testing.T) {
	for _, c := range valid {
		if s, e := terms.Text(c.t); s != c.s || e != api.OK {
			t.Errorf("Text(%v) = %q, %d, want %q", c.t, s, e, c.s)
		}
		if x, e := terms.Parse(c.s); !same(x, c.t) || e != api.OK {
			t.Errorf("Parse(%q) = %v, %d, want %v", c.s, x, e, c.t)
		}
	}
	for _, x := range wrong() {
		if s, e := terms.Text(x); s != "" || e != api.ErrArg {
			t.Errorf("Text(%v) = %q, %d, want ErrArg", x, s, e)
		}
	}
}

// wantForm fails unless Parse returns ErrForm.
func wantForm(t *testing.T, s string) {
	t.Helper()
	if x, e := terms.Parse(s); !reflect.DeepEqual(x, api.Terms{}) || e != api.ErrForm {
		t.Errorf("Parse(%q) = %v, %d, want ErrForm", s, x, e)
	}
}

// P24.3: texts that are no notation.
func TestParseErrors(t *testing.T) {
	for _, s := range []string{
		"", " ", "net", "eom", "30", "net 30 ", " net 30", "net  30", "net\t30", "net 30\n", "net 30 # x", "net 30#", "net 30 5", "net 30 net 30", "net 30 eom 30", "net net 30", "net eom",
		"Net 30", "NET 30", "net30", "net,30", "\"net\" 30", "net \"30\"", "net +30", "net -0", "net -1", "net 030", "net 007", "net 00", "net 366", "net 99999999999999999999", "net 1.0", "net 3/1", "net x", "net ?", "other 30",
		"1/2 net 30", "1/2 5", "1/2 5 30", "5 1/2 net 30", "1/2 5 6 net 30", "1/2 5 1/3 net 30", "1/2  5 net 30", "1/2 5  net 30", "1/2 5 net  30", "1/2 05 net 30", "1/2 366 net 30", "1/2 -1 net 30", "1/2 5/1 net 30", "1/2 5.0 net 30", "1/2, 5 net 30",
		"0.5 5 net 30", "0.03 10 net 30", "2/4 5 net 30", "0 5 net 30", "0/1 5 net 30", "1 5 net 30", "1/1 5 net 30", "3/2 5 net 30", "-1/2 5 net 30", "1/0 5 net 30", "01/2 5 net 30", "1/02 5 net 30", "1/1000001 5 net 30", "1/ 5 net 30", "/2 5 net 30", "1 / 2 5 net 30", "x 5 net 30", "2000000/4000000 5 net 30",
		"1/2 5 1/3 5 net 30", "1/2 5 1/3 4 net 30", "1/2 5 1/2 6 net 30", "1/2 5 2/3 6 net 30", "6/7 1 5/6 2 4/5 3 3/4 4 2/3 5 1/2 6 net 6",
		"net 30 \xff", "n\x00et 30", "net\u00a030", "net 3\uff10",
		strings.Repeat("1/2 5 ", 70) + "net 30", strings.Repeat(" ", 395) + "net 3", strings.Repeat("1", 500), strings.Repeat("1", 1<<20), "net " + strings.Repeat("1", 61), "net 3" + strings.Repeat(" ", 500),
	} {
		wantForm(t, s)
	}
	for _, x := range wrong() {
		// The notation that these terms would have, if they were valid.
		wantForm(t, written(x))
	}
}

// written returns what the chapter says of the notation of terms, whether they are valid or not.
func written(x api.Terms) string {
	var b strings.Builder
	for _, c := range x.Cuts {
		b.WriteString(strconv.Itoa(c.F.N) + "/" + strconv.Itoa(c.F.D) + " " + strconv.Itoa(c.Days) + " ")
	}
	b.WriteString(map[bool]string{false: "net ", true: "eom "}[x.Eom] + strconv.Itoa(x.Net))
	return b.String()
}

// random returns terms of which about half are valid.
func random(r *rand.Rand) api.Terms {
	x := api.Terms{Net: r.Intn(366), Eom: r.Intn(2) == 0}
	days, f := -1, big.NewRat(1, 1)
	for range r.Intn(6) {
		days += 1 + r.Intn(61)
		f.Mul(f, big.NewRat(int64(1+r.Intn(9)), 10))
		x.Cuts = append(x.Cuts, cut(days, int(f.Num().Int64()), int(f.Denom().Int64())))
	}
	if len(x.Cuts) > 0 && r.Intn(2) == 0 {
		i := r.Intn(len(x.Cuts))
		switch r.Intn(4) {
		case 0:
			x.Cuts[i].Days += r.Intn(41) - 20
		case 1:
			x.Cuts[i].F.N += r.Intn(7) - 3
		case 2:
			x.Cuts[i].F.D += r.Intn(7) - 3
		case 3:
			x.Net += r.Intn(701) - 350
		}
	}
	return x
}

// right tells whether terms are valid, as the chapter says it.
func right(x api.Terms) bool {
	ok := x.Net >= 0 && x.Net <= 365 && len(x.Cuts) <= 5
	for i, c := range x.Cuts {
		if c.F.D < 1 || c.F.D > part {
			return false
		}
		f := big.NewRat(int64(c.F.N), int64(c.F.D))
		ok = ok && f.Denom().Int64() == int64(c.F.D) && f.Sign() > 0 && f.Cmp(big.NewRat(1, 1)) < 0 && c.Days >= 0 && c.Days <= 365
		if ok && i > 0 {
			before := x.Cuts[i-1]
			ok = before.Days < c.Days && big.NewRat(int64(before.F.N), int64(before.F.D)).Cmp(f) > 0
		}
	}
	return ok
}

// P24.1 to P24.3: random terms.
func TestRandomTerms(t *testing.T) {
	r := rand.New(rand.NewSource(24))
	counts := map[bool]int{}
	for range 20000 {
		x := random(r)
		given := copied(x)
		ok := right(x)
		counts[ok]++
		if terms.Right(x) != ok {
			t.Fatalf("Right(%v) = %v", x, !ok)
		}
		s, e := terms.Text(x)
		if !ok {
			if s != "" || e != api.ErrArg {
				t.Fatalf("Text(%v) = %q, %d, want ErrArg", x, s, e)
			}
			wantForm(t, written(x))
			continue
		}
		if s != written(x) || e != api.OK {
			t.Fatalf("Text(%v) = %q, %d", x, s, e)
		}
		y, e := terms.Parse(s)
		if !same(x, y) || e != api.OK {
			t.Fatalf("Parse(%q) = %v, %d, want %v", s, y, e, x)
		}
		day := r.Intn(api.MaxDay - 800)
		paid := max(day+r.Intn(450)-50, 0)
		f := api.Frac{N: 0, D: 1}
		for _, c := range slices.Backward(x.Cuts) {
			if paid-day <= c.Days {
				f = c.F
			}
		}
		wantCut(t, x, day, paid, f, api.OK)
		if !same(given, copied(x)) {
			t.Fatalf("the terms changed from %v to %v", given, x)
		}
	}
	if counts[true] < 5000 || counts[false] < 2000 {
		t.Errorf("the numbers of valid and other terms are %v", counts)
	}
}

var notation = regexp.MustCompile(`^((?:[1-9][0-9]*/[1-9][0-9]* (?:0|[1-9][0-9]*) )*)(net|eom) (0|[1-9][0-9]*)\z`)

// read returns the terms that s denotes as the pattern of a notation says it, and whether it denotes valid ones.
func read(s string) (x api.Terms, ok bool) {
	m := notation.FindStringSubmatch(s)
	if m == nil {
		return x, false
	}
	number := func(s string) int {
		n, err := strconv.Atoi(s)
		if err != nil {
			return -1
		}
		return n
	}
	x.Net, x.Eom = number(m[3]), m[2] == "eom"
	l := strings.Fields(m[1])
	for i := 0; i < len(l); i += 2 {
		n, d, _ := strings.Cut(l[i], "/")
		x.Cuts = append(x.Cuts, cut(number(l[i+1]), number(n), number(d)))
	}
	return x, right(x)
}

// wantRead fails unless Parse and read agree, and returns whether s is a notation.
func wantRead(t *testing.T, s string) bool {
	t.Helper()
	x, ok := read(s)
	if !ok {
		wantForm(t, s)
		return false
	}
	if y, e := terms.Parse(s); !same(x, y) || e != api.OK {
		t.Errorf("Parse(%q) = %v, %d, want %v", s, y, e, x)
	}
	return true
}

// P24.3: parts of notations.
func TestCutNotations(t *testing.T) {
	for _, c := range valid {
		for from := range len(c.s) + 1 {
			for to := from; to <= len(c.s); to++ {
				wantRead(t, c.s[from:to])
			}
		}
	}
}

// P24.3: notations with random changes.
func TestChangedNotations(t *testing.T) {
	r := rand.New(rand.NewSource(25))
	const letters = "0123456789/. -#\"netom"
	counts := map[bool]int{}
	for range 200000 {
		b := []byte(valid[r.Intn(len(valid))].s)
		for range 1 + r.Intn(3) {
			at := r.Intn(len(b) + 1)
			letter := letters[r.Intn(len(letters))]
			switch {
			case r.Intn(3) == 0:
				b = slices.Insert(b, at, letter)
			case at < len(b) && r.Intn(2) == 0:
				b[at] = letter
			case at < len(b):
				b = slices.Delete(b, at, at+1)
			}
		}
		s := string(b)
		counts[wantRead(t, s)]++
	}
	if counts[true] < 5000 || counts[false] < 5000 {
		t.Errorf("the numbers of notations and other texts are %v", counts)
	}
}

// P24.3: results share no memory.
func TestResultsAreNew(t *testing.T) {
	x, _ := terms.Parse("1/2 5 1/3 6 net 30")
	x.Cuts[0].Days = 99
	_ = append(x.Cuts, api.Cut{})
	if y, e := terms.Parse("1/2 5 1/3 6 net 30"); !same(y, net(30, cut(5, 1, 2), cut(6, 1, 3))) || e != api.OK {
		t.Errorf("Parse = %v, %d", y, e)
	}
}
