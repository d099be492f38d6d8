package dims_test

import (
	"math/rand"
	"regexp"
	"slices"
	"sort"
	"strings"
	"testing"

	"accounting/api"
	"accounting/dims"
)

// wrongCodes are texts that are not codes.
var wrongCodes = []string{"", " ", "a b", "a=b", "a,b", "*", "ä", "a-b", "a.b", "abcdefghijklm", "\x00", "\xff", "a\n", strings.Repeat("a", 500)}

// rightCodes are codes at the edges of their definition.
var rightCodes = []string{"a", "Z", "0", "_", "9z", "abcdefghijkl", "A_1", "____________"}

// tags returns the list with this notation, whether or not it is valid: each name is the text before the first = of a part.
func tags(s string) (l []api.Tag) {
	if s == "" {
		return nil
	}
	for _, part := range strings.Split(s, ",") {
		name, value, _ := strings.Cut(part, "=")
		l = append(l, api.Tag{Name: name, Value: value})
	}
	return l
}

// randomTags returns n tags with few different names and values, some of them wrong.
func randomTags(r *rand.Rand, n int) []api.Tag {
	names := []string{"a", "b", "B", "c", "d", "e", "f", "g", "_", "1", "aa", "abcdefghijkl", ""}
	values := []string{"1", "2", "x", "abcdefghijkl", "*", "", "a b"}
	l := make([]api.Tag, n)
	for i := range l {
		l[i] = api.Tag{Name: names[r.Intn(len(names))], Value: values[r.Intn(4)]}
		if r.Intn(15) == 0 {
			l[i].Value = values[r.Intn(len(values))]
		}
	}
	return l
}

// roomy returns a copy of l in the middle of a longer slice, and that slice.
func roomy(l []api.Tag) (part, whole []api.Tag) {
	whole = append(slices.Clone(l), api.Tag{Name: "y", Value: "y"}, api.Tag{Name: "z", Value: "z"})
	return whole[:len(l)], whole
}

var code = regexp.MustCompile(`^[A-Za-z0-9_]{1,12}$`)

// isRight reports whether a list is valid, as the chapter defines it.
func isRight(l []api.Tag) bool {
	for i, t := range l {
		if !code.MatchString(t.Name) || !code.MatchString(t.Value) || strings.HasSuffix(t.Name+t.Value, "\n") {
			return false
		}
		for _, earlier := range l[:i] {
			if earlier.Name >= t.Name {
				return false
			}
		}
	}
	return len(l) <= 6
}

// P9.1
func TestRight(t *testing.T) {
	for _, s := range []string{"", "a=1", "dept=x,proj=7", "A=1,B=1,_=1,a=1,b=1,c=1", "a=1,aa=1", "1=1,A=1,_=1,a=1", "abcdefghijkl=ABCDEFGHIJKL"} {
		if !dims.Right(tags(s)) {
			t.Errorf("Right(%q) is false", s)
		}
	}
	for _, s := range []string{"b=1,a=1", "a=1,a=2", "a=1,a=1", "a=1,c=1,b=1", "a=1,B=1", "a=1,b=1,c=1,d=1,e=1,f=1,g=1", "=", "a=", "=a", "a=*"} {
		if dims.Right(tags(s)) {
			t.Errorf("Right(%q) is true", s)
		}
	}
	for _, s := range wrongCodes {
		for _, x := range []api.Tag{{Name: s, Value: "b"}, {Name: "b", Value: s}} {
			if dims.Right([]api.Tag{x}) || dims.Right([]api.Tag{{Name: "A", Value: "A"}, x}) {
				t.Errorf("Right of %q is true", x)
			}
		}
	}
	for _, s := range rightCodes {
		if !dims.Right([]api.Tag{{Name: s, Value: "b"}}) || !dims.Right([]api.Tag{{Name: "b", Value: s}}) {
			t.Errorf("Right with the code %q is false", s)
		}
	}
	if !dims.Right([]api.Tag{}) {
		t.Error("Right of an empty list is false")
	}
}

// made returns the result of Make, as the chapter describes it.
func made(l []api.Tag) ([]api.Tag, api.Errno) {
	if len(l) > 6 {
		return nil, api.ErrMany
	}
	seen := map[string]bool{}
	for _, x := range l {
		if !code.MatchString(x.Name) || !code.MatchString(x.Value) {
			return nil, api.ErrName
		}
		if seen[x.Name] {
			return nil, api.ErrTwice
		}
		seen[x.Name] = true
	}
	l = slices.Clone(l)
	sort.Slice(l, func(i, j int) bool { return l[i].Name < l[j].Name })
	return l, api.OK
}

// P9.1
func TestMake(t *testing.T) {
	r := rand.New(rand.NewSource(9))
	counts := map[api.Errno]int{}
	for range 20000 {
		l, whole := roomy(randomTags(r, r.Intn(8)))
		kept := slices.Clone(whole)
		want, wantE := made(l)
		d, e := dims.Make(l...)
		if !slices.Equal(d, want) || e != wantE {
			t.Fatalf("Make(%v) = %v, %d, want %v, %d", l, d, e, want, wantE)
		}
		if dims.Right(d) != true || dims.Right(l) != isRight(l) {
			t.Fatalf("Right of %v or %v is wrong", d, l)
		}
		for i := range d {
			d[i] = api.Tag{Name: "changed"}
		}
		_ = append(d, api.Tag{Name: "new"})
		if !slices.Equal(whole, kept) {
			t.Fatalf("Make changed %v to %v", kept, whole)
		}
		counts[e]++
	}
	for _, e := range []api.Errno{api.OK, api.ErrMany, api.ErrName, api.ErrTwice} {
		if counts[e] < 100 {
			t.Errorf("error %d occurred only %d times", e, counts[e])
		}
	}
}

// P9.1
func TestMakeExamplesAndErrors(t *testing.T) {
	for _, c := range []struct {
		l, want string
		e       api.Errno
	}{
		{"proj=7,dept=x", "dept=x,proj=7", api.OK}, {"dept=x,dept=x", "", api.ErrTwice}, {"dept=x,dept=y", "", api.ErrTwice}, {"", "", api.OK}, {"f=1,e=1,d=1,c=1,b=1,a=1", "a=1,b=1,c=1,d=1,e=1,f=1", api.OK},
		{"a=1,b=1,c=1,d=1,e=1,f=1,g=1", "", api.ErrMany}, {"a=1,a=1,a=1,a=1,a=1,a=1,a=1", "", api.ErrMany}, {"=,=,=,=,=,=,=", "", api.ErrMany},
		{"a=1,a=1,b=?", "", api.ErrTwice}, {"a=1,b=?,a=1", "", api.ErrName}, {"a=1,a=?", "", api.ErrName}, {"a=?,a=1", "", api.ErrName}, {"?=1", "", api.ErrName}, {"a=*", "", api.ErrName}, {"b=1,a=1,b=1", "", api.ErrTwice},
	} {
		if d, e := dims.Make(tags(c.l)...); !slices.Equal(d, tags(c.want)) || e != c.e {
			t.Errorf("Make(%s) = %v, %d, want %s, %d", c.l, d, e, c.want, c.e)
		}
	}
}

// P9.2
func TestGet(t *testing.T) {
	l := tags("b=1,a=2,b=3,=4,c=")
	for name, want := range map[string]string{"b": "1", "a": "2", "": "4", "c": ""} {
		if v, ok := dims.Get(l, name); v != want || !ok {
			t.Errorf("Get(%q) = %q, %v, want %q", name, v, ok, want)
		}
	}
	for _, name := range []string{"d", "A", "aa", "*", "\x00"} {
		if v, ok := dims.Get(l, name); v != "" || ok {
			t.Errorf("Get(%q) = %q, %v", name, v, ok)
		}
	}
	if v, ok := dims.Get(nil, ""); v != "" || ok {
		t.Errorf("Get of an empty list = %q, %v", v, ok)
	}
}

// with returns the result of With, as the chapter describes it.
func with(l []api.Tag, x api.Tag) ([]api.Tag, api.Errno) {
	if !isRight(l) {
		return nil, api.ErrTag
	}
	if !code.MatchString(x.Name) || !code.MatchString(x.Value) {
		return nil, api.ErrName
	}
	all := map[string]string{}
	for _, y := range append(slices.Clone(l), x) {
		all[y.Name] = y.Value
	}
	var d []api.Tag
	for name, value := range all {
		d = append(d, api.Tag{Name: name, Value: value})
	}
	sort.Slice(d, func(i, j int) bool { return d[i].Name < d[j].Name })
	if len(d) > 6 {
		return nil, api.ErrMany
	}
	return d, api.OK
}

// P9.2
func TestWith(t *testing.T) {
	r := rand.New(rand.NewSource(92))
	counts := map[api.Errno]int{}
	for range 30000 {
		plain := randomTags(r, r.Intn(8))
		if d, e := made(plain); e == api.OK {
			plain = d
		}
		l, whole := roomy(plain)
		kept := slices.Clone(whole)
		x := randomTags(r, 1)[0]
		want, wantE := with(l, x)
		d, e := dims.With(l, x)
		if !slices.Equal(d, want) || e != wantE {
			t.Fatalf("With(%v, %v) = %v, %d, want %v, %d", l, x, d, e, want, wantE)
		}
		for i := range d {
			d[i] = api.Tag{Name: "changed"}
		}
		_ = append(d, api.Tag{Name: "new"})
		if !slices.Equal(whole, kept) {
			t.Fatalf("With changed %v to %v", kept, whole)
		}
		counts[e]++
	}
	for _, e := range []api.Errno{api.OK, api.ErrTag, api.ErrName, api.ErrMany} {
		if counts[e] < 30 {
			t.Errorf("error %d occurred only %d times", e, counts[e])
		}
	}
}

// P9.2
func TestWithErrors(t *testing.T) {
	six, seven := "a=1,b=1,c=1,d=1,e=1,f=1", "a=1,b=1,c=1,d=1,e=1,f=1,g=1"
	for _, c := range []struct {
		l, x, want string
		e          api.Errno
	}{
		{six, "c=2", "a=1,b=1,c=2,d=1,e=1,f=1", api.OK}, {six, "a=2", "a=2,b=1,c=1,d=1,e=1,f=1", api.OK}, {six, "f=2", "a=1,b=1,c=1,d=1,e=1,f=2", api.OK}, {"", "c=2", "c=2", api.OK}, {"b=1,d=1", "c=2", "b=1,c=2,d=1", api.OK},
		{six, "g=1", "", api.ErrMany}, {six, "A=1", "", api.ErrMany}, {six, "?=1", "", api.ErrName}, {six, "g=?", "", api.ErrName}, {six, "a=", "", api.ErrName}, {six, "a=*", "", api.ErrName},
		{seven, "a=2", "", api.ErrTag}, {seven, "?=?", "", api.ErrTag}, {"b=1,a=1", "b=1", "", api.ErrTag}, {"a=1,a=1", "a=1", "", api.ErrTag}, {"a=?", "a=1", "", api.ErrTag}, {"b=1,a=1", "=", "", api.ErrTag},
	} {
		if d, e := dims.With(tags(c.l), tags(c.x)[0]); !slices.Equal(d, tags(c.want)) || e != c.e {
			t.Errorf("With(%s, %s) = %v, %d, want %s, %d", c.l, c.x, d, e, c.want, c.e)
		}
	}
}

// P9.2
func TestWithoutAndKeep(t *testing.T) {
	for _, c := range []struct{ l, name, without, keep string }{
		{"a=1,b=2,c=3", "b", "a=1,c=3", "b=2"}, {"a=1,b=2,c=3", "d", "a=1,b=2,c=3", ""}, {"c=1,a=2,c=3,b=4", "c", "a=2,b=4", "c=1,c=3"}, {"", "a", "", ""}, {"a=1,a=1", "a", "", "a=1,a=1"}, {"=1,a=2", "", "a=2", "=1"}, {"a=1,a b=?,z=1", "a b", "a=1,z=1", "a b=?"},
		{"h=1,g=1,f=1,e=1,d=1,c=1,b=1,a=1,i=1", "e", "h=1,g=1,f=1,d=1,c=1,b=1,a=1,i=1", "e=1"},
	} {
		l, whole := roomy(tags(c.l))
		kept := slices.Clone(whole)
		without, keep := dims.Without(l, c.name), dims.Keep(l, c.name)
		if !slices.Equal(without, tags(c.without)) || !slices.Equal(keep, tags(c.keep)) {
			t.Errorf("Without and Keep of %s and %q = %v, %v", c.l, c.name, without, keep)
		}
		for _, d := range [][]api.Tag{without, keep} {
			for i := range d {
				d[i] = api.Tag{Name: "changed"}
			}
			_ = append(d, api.Tag{Name: "new"})
		}
		if !slices.Equal(whole, kept) {
			t.Errorf("%v was changed to %v", kept, whole)
		}
	}
	l := tags("c=1,a=2,b=3,c=4,d=5")
	for _, c := range []struct {
		names []string
		want  string
	}{{nil, ""}, {[]string{"d", "c"}, "c=1,c=4,d=5"}, {[]string{"a", "a", "x"}, "a=2"}, {[]string{"d", "b", "a", "c"}, "c=1,a=2,b=3,c=4,d=5"}} {
		names := slices.Clone(c.names)
		if d := dims.Keep(l, names...); !slices.Equal(d, tags(c.want)) || !slices.Equal(names, c.names) {
			t.Errorf("Keep(%v) = %v, want %s", c.names, d, c.want)
		}
	}
}

// P9.3
func TestMatch(t *testing.T) {
	for _, c := range []struct {
		pattern, l string
		ok         bool
	}{
		{"dept=*", "dept=x,proj=7", true}, {"dept=y", "dept=x,proj=7", false}, {"dept=x", "dept=x,proj=7", true}, {"", "dept=x", true}, {"", "", true}, {"dept=x", "", false}, {"dept=*", "", false}, {"dept=*", "proj=7", false},
		{"proj=7,dept=x", "dept=x,proj=7", true}, {"proj=8,dept=x", "dept=x,proj=7", false}, {"proj=7,dept=y", "dept=x,proj=7", false}, {"proj=*,dept=*", "dept=x,proj=7", true}, {"proj=*,other=*", "dept=x,proj=7", false},
		{"a=1", "a=1,a=2", true}, {"a=2", "a=1,a=2", false}, {"a=1,a=2", "a=1,a=2", false}, {"a=1,a=*", "a=1", true}, {"a=*", "a=*", true}, {"a=1", "a=*", false}, {"a=**", "a=1", false}, {"a=", "a=", true}, {"a=*", "a=", true}, {"a=", "a=1", false}, {"=1", "=1", true}, {"*=1", "a=1", false}, {"A=1", "a=1", false},
	} {
		if ok := dims.Match(tags(c.pattern), tags(c.l)); ok != c.ok {
			t.Errorf("Match(%s, %s) is %v", c.pattern, c.l, ok)
		}
	}
}

// P9.4
func TestTextAndParse(t *testing.T) {
	r := rand.New(rand.NewSource(94))
	for range 5000 {
		l, e := made(randomTags(r, r.Intn(7)))
		if e != api.OK {
			continue
		}
		want := ""
		for i, x := range l {
			if i > 0 {
				want += ","
			}
			want += x.Name + "=" + x.Value
		}
		s, e := dims.Text(l)
		if s != want || e != api.OK {
			t.Fatalf("Text(%v) = %q, %d, want %q", l, s, e, want)
		}
		if m, e := dims.Parse(s); !slices.Equal(m, l) || e != api.OK {
			t.Fatalf("Parse(%q) = %v, %d, want %v", s, m, e, l)
		}
	}
	if s, e := dims.Text(tags("dept=x,proj=7")); s != "dept=x,proj=7" || e != api.OK {
		t.Errorf("Text of the example = %q, %d", s, e)
	}
	if s, e := dims.Text(nil); s != "" || e != api.OK {
		t.Errorf("Text of an empty list = %q, %d", s, e)
	}
	if l, e := dims.Parse(""); len(l) != 0 || e != api.OK {
		t.Errorf("Parse of an empty text = %v, %d", l, e)
	}
}

// P9.4
func TestTextErrors(t *testing.T) {
	for _, s := range []string{"b=1,a=1", "a=1,a=1", "a=", "=1", "a=*", "a=1,b=1,c=1,d=1,e=1,f=1,g=1"} {
		if got, e := dims.Text(tags(s)); got != "" || e != api.ErrTag {
			t.Errorf("Text of %q = %q, %d, want ErrTag", s, got, e)
		}
	}
	for _, s := range wrongCodes {
		if got, e := dims.Text([]api.Tag{{Name: "a", Value: s}}); got != "" || e != api.ErrTag {
			t.Errorf("Text with the value %q = %q, %d, want ErrTag", s, got, e)
		}
	}
}

// P9.4
func TestParseForm(t *testing.T) {
	for _, s := range []string{"proj=7,dept=x", "a=1,a=2", "a", "=", ",", "a=", "=a", "a=1,", ",a=1", "a=1,,b=1", "a=1 ", " a=1", "a=1, b=1", "a==1", "a=1=2", "a=*", "a:1", "a=1;b=1", "a=1,b", "A=1,a=ä", "abcdefghijklm=1", "a=abcdefghijklm", "a=1\n", "a=1,b=1,c=1,d=1,e=1,f=1,g=1", strings.Repeat(",", 100000), strings.Repeat("a", 100000)} {
		if l, e := dims.Parse(s); len(l) != 0 || e != api.ErrForm {
			t.Errorf("Parse(%.40q) = %v, %d, want ErrForm", s, l, e)
		}
	}
	r := rand.New(rand.NewSource(941))
	right := 0
	for range 100000 {
		b := make([]byte, r.Intn(9))
		for i := range b {
			b[i] = "ab=,*="[r.Intn(6)]
		}
		s := string(b)
		l, e := dims.Parse(s)
		if isRight(tags(s)) && strings.Count(s, "=") == len(tags(s)) {
			right++
			if !slices.Equal(l, tags(s)) || e != api.OK {
				t.Fatalf("Parse(%q) = %v, %d", s, l, e)
			}
		} else if len(l) != 0 || e != api.ErrForm {
			t.Fatalf("Parse(%q) = %v, %d, want ErrForm", s, l, e)
		}
	}
	if right < 1000 {
		t.Errorf("only %d notations", right)
	}
}
