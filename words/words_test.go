package words_test

import (
	"math"
	"math/rand"
	"regexp"
	"slices"
	"strings"
	"testing"

	"accounting/api"
	"accounting/words"
)

const codeBytes = "ABCDEFGHIJKLMNOPQRSTUVWXYZabcdefghijklmnopqrstuvwxyz0123456789_"

// signs are all signs of the chapter.
func signs() []string {
	return strings.Fields("<= >= != .. ( ) { } [ ] , ; : = + - * / < > | & ! @ %")
}

func name(s string, at int) api.Word   { return api.Word{Kind: api.WName, S: s, At: at} }
func number(s string, at int) api.Word { return api.Word{Kind: api.WNum, S: s, At: at} }
func text(s string, at int) api.Word   { return api.Word{Kind: api.WText, S: s, At: at} }
func sign(s string, at int) api.Word   { return api.Word{Kind: api.WSign, S: s, At: at} }

// P6.1
func TestCode(t *testing.T) {
	for b := range 256 {
		s := string([]byte{byte(b)})
		want := strings.Contains(codeBytes, s)
		for _, c := range []string{s, "a" + s, s + "9", "ab" + s + "cd"} {
			if words.Code(c) != want {
				t.Errorf("Code(%q) is %v", c, !want)
			}
		}
	}
	for _, s := range []string{"a", "9", "_", "1000", "a_1", "ABCDEFGHIJKL", "000000000000", "____________"} {
		if !words.Code(s) {
			t.Errorf("Code(%q) is false", s)
		}
	}
	for _, s := range []string{"", " ", "a b", "a-b", "-1", "1.5", "ABCDEFGHIJKLM", strings.Repeat("a", 400), "ä", "é1", "a\x00"} {
		if words.Code(s) {
			t.Errorf("Code(%q) is true", s)
		}
	}
}

// P6.1
func TestPlain(t *testing.T) {
	for b := range 256 {
		s := string([]byte{byte(b)})
		want := b >= 32 && b <= 126
		for _, c := range []string{s, "a" + s, s + "b", strings.Repeat("x", 59) + s} {
			if words.Plain(c) != want {
				t.Errorf("Plain(%q) is %v", c, !want)
			}
		}
	}
	for _, s := range []string{"", " ", "a b", `"\#`, strings.Repeat("a", 60), strings.Repeat(`"`, 60)} {
		if !words.Plain(s) {
			t.Errorf("Plain(%q) is false", s)
		}
	}
	for _, s := range []string{strings.Repeat("a", 61), strings.Repeat(" ", 100), "a\nb", "ä", "\xff"} {
		if words.Plain(s) {
			t.Errorf("Plain(%q) is true", s)
		}
	}
}

// P6.2
func TestCutWords(t *testing.T) {
	for line, want := range map[string][]api.Word{
		"":                     nil,
		"   ":                  nil,
		"#":                    nil,
		" # a \"\x00\xff":      nil,
		`post -1.50 "a b" # x`: {name("post", 0), number("-1.50", 5), text("a b", 11)},
		"a<=2..3":              {name("a", 0), sign("<=", 1), number("2", 3), sign("..", 4), number("3", 6)},
		"a#b":                  {name("a", 0)},
		"1#":                   {number("1", 0)},
		`"#"#"`:                {text("#", 0)},
		`""`:                   {text("", 0)},
		`"" ""`:                {text("", 0), text("", 3)},
		`"a""b"c`:              {text("a", 0), text("b", 3), name("c", 6)},
		`"\"\\\\\""`:           {text(`"\\"`, 0)},
		`"~ !"`:                {text("~ !", 0)},
		"ABCDEFGHIJKL a":       {name("ABCDEFGHIJKL", 0), name("a", 13)},
		"_ _1 a_B9":            {name("_", 0), name("_1", 2), name("a_B9", 5)},
		"a.. b":                {name("a", 0), sign("..", 1), name("b", 4)},
		"a-1":                  {name("a", 0), number("-1", 1)},
		"a-b":                  {name("a", 0), sign("-", 1), name("b", 2)},
		"a/1":                  {name("a", 0), sign("/", 1), number("1", 2)},
		"1-2":                  {number("1-2", 0)},
		"1 -2":                 {number("1", 0), number("-2", 2)},
		"1 - 2":                {number("1", 0), sign("-", 2), number("2", 4)},
		"1--2":                 {number("1", 0), sign("-", 1), number("-2", 2)},
		"--2":                  {sign("-", 0), number("-2", 1)},
		"-":                    {sign("-", 0)},
		"1-":                   {number("1", 0), sign("-", 1)},
		"-a":                   {sign("-", 0), name("a", 1)},
		"1/":                   {number("1", 0), sign("/", 1)},
		"1/3-4.5a_Z":           {number("1/3-4.5a_Z", 0)},
		"2024-02-29":           {number("2024-02-29", 0)},
		"1.2.3":                {number("1.2.3", 0)},
		"1a..2":                {number("1a", 0), sign("..", 2), number("2", 4)},
		"1a.5":                 {number("1a.5", 0)},
		"1a-b":                 {number("1a", 0), sign("-", 2), name("b", 3)},
		"1//2":                 {number("1", 0), sign("/", 1), sign("/", 2), number("2", 3)},
		"<=>=!=..":             {sign("<=", 0), sign(">=", 2), sign("!=", 4), sign("..", 6)},
		"<>==!":                {sign("<", 0), sign(">=", 1), sign("=", 3), sign("!", 4)},
		"=<=":                  {sign("=", 0), sign("<=", 1)},
		"....":                 {sign("..", 0), sign("..", 2)},
		"(){}[],;:=+*/|&@%":    {sign("(", 0), sign(")", 1), sign("{", 2), sign("}", 3), sign("[", 4), sign("]", 5), sign(",", 6), sign(";", 7), sign(":", 8), sign("=", 9), sign("+", 10), sign("*", 11), sign("/", 12), sign("|", 13), sign("&", 14), sign("@", 15), sign("%", 16)},
	} {
		if l, at, e := words.Cut(line); !slices.Equal(l, want) || at != len(line) || e != api.OK {
			t.Errorf("Cut(%q) = %v, %d, %d, want %v", line, l, at, e, want)
		}
	}
}

// P6.2
func TestCutErrors(t *testing.T) {
	long := strings.Repeat("a", 61)
	for line, want := range map[string]struct {
		at int
		e  api.Errno
	}{
		`a ? "`: {2, api.ErrForm}, "a .": {2, api.ErrForm}, "...": {2, api.ErrForm}, "1.": {1, api.ErrForm}, "1.a": {1, api.ErrForm}, "-.5": {1, api.ErrForm}, ".5": {0, api.ErrForm}, "a.b": {1, api.ErrForm},
		"\t": {0, api.ErrForm}, "a\n": {1, api.ErrForm}, "a\r": {1, api.ErrForm}, "a \\": {2, api.ErrForm}, "a ä": {2, api.ErrForm}, "aä": {1, api.ErrForm}, "1\xff": {1, api.ErrForm}, "\x00": {0, api.ErrForm}, "\x7f": {0, api.ErrForm},
		`b "`: {2, api.ErrShort}, `"`: {0, api.ErrShort}, `x "abc # " y "`: {13, api.ErrShort}, `"abc#`: {0, api.ErrShort}, `"a\"`: {0, api.ErrShort}, `"" "`: {3, api.ErrShort},
		`"a\n"`: {2, api.ErrForm}, `"a\`: {2, api.ErrForm}, `"a\\\`: {4, api.ErrForm}, `"\ "`: {1, api.ErrForm}, "\"a\tb\"": {2, api.ErrForm}, "\"a\x7f": {2, api.ErrForm}, "\"\x1f\"": {1, api.ErrForm}, "\"\\\x00\"": {1, api.ErrForm}, `"ä"`: {1, api.ErrForm},
		"abcdefghijklm": {0, api.ErrMany}, "a abcdefghijklm ?": {2, api.ErrMany}, "? abcdefghijklm": {0, api.ErrForm}, "-" + strings.Repeat("1", 60): {0, api.ErrMany}, " " + strings.Repeat("1.2-", 20) + "5": {1, api.ErrMany}, "1" + long: {0, api.ErrMany},
		`"` + long + `"`: {0, api.ErrMany}, `a "` + long + `" ?`: {2, api.ErrMany}, `"` + strings.Repeat(`\"`, 61) + `"`: {0, api.ErrMany},
		// A text is read to its end before its length counts.
		`"` + long: {0, api.ErrShort}, `"` + long + `\"`: {0, api.ErrShort}, `"` + long + "\x00\"": {62, api.ErrForm}, `"` + long + "\x00": {62, api.ErrForm}, `"` + long + `\`: {62, api.ErrForm}, `"` + long + `\n"`: {62, api.ErrForm},
		strings.Repeat(" ", 401): {0, api.ErrMany}, "?" + strings.Repeat(" ", 400): {0, api.ErrMany}, "#" + strings.Repeat("x", 400): {0, api.ErrMany}, `  "` + strings.Repeat("x", 400): {0, api.ErrMany},
	} {
		if l, at, e := words.Cut(line); len(l) != 0 || at != want.at || e != want.e {
			t.Errorf("Cut(%q) = %v, %d, %d, want %d, %d", line, l, at, e, want.at, want.e)
		}
	}
}

// P6.2
func TestCutLimits(t *testing.T) {
	digits, escaped := strings.Repeat("7", 60), strings.Repeat(`\\`, 60)
	for line, want := range map[string]api.Word{
		"abcdefghijk9":                   name("abcdefghijk9", 0),
		digits:                           number(digits, 0),
		"-" + digits[1:]:                 number("-"+digits[1:], 0),
		`"` + digits + `"`:               text(digits, 0),
		`"` + escaped + `"`:              text(escaped[:60], 0),
		"a" + strings.Repeat(" ", 399):   name("a", 0),
		strings.Repeat(" ", 399) + "a":   name("a", 399),
		"a#" + strings.Repeat("\"", 398): name("a", 0),
	} {
		if l, at, e := words.Cut(line); !slices.Equal(l, []api.Word{want}) || at != len(line) || e != api.OK {
			t.Errorf("Cut(%q) = %v, %d, %d, want %v", line, l, at, e, want)
		}
	}
	if l, at, e := words.Cut(strings.Repeat("(", 400)); len(l) != 400 || at != 400 || e != api.OK {
		t.Errorf("400 signs: %d, %d, %d", len(l), at, e)
	}
}

// P6.2
func TestSigns(t *testing.T) {
	for b := range 256 {
		s := string([]byte{byte(b)})
		if b == ' ' || b == '#' || b == '"' || b != '-' && strings.Contains(codeBytes, s) {
			continue
		}
		want, wantE := []api.Word{sign(s, 0)}, api.OK
		if !slices.Contains(signs(), s) {
			want, wantE = nil, api.ErrForm
		}
		if l, _, e := words.Cut(s); !slices.Equal(l, want) || e != wantE {
			t.Errorf("Cut(%q) = %v, %d, want %v, %d", s, l, e, want, wantE)
		}
	}
}

// The words of the chapter as regular expressions.
var patterns = []struct {
	kind, most int
	form       *regexp.Regexp
}{
	{api.WName, 12, regexp.MustCompile(`^[A-Za-z_][A-Za-z0-9_]*`)},
	{api.WNum, 60, regexp.MustCompile(`^-?[0-9](?:[A-Za-z0-9_]|[./-][0-9])*`)},
	{api.WText, 60, regexp.MustCompile(`^"(?:[ !#-\[\]-~]|\\["\\])*"`)},
	{api.WSign, 2, regexp.MustCompile(`^(?:<=|>=|!=|\.\.|[(){}\[\],;:=+*/<>|&!@%-])`)},
}

// broken is a text that is not terminated, up to where it goes wrong.
var broken = regexp.MustCompile(`^"(?:[ !#-\[\]-~]|\\["\\])*`)

// cutSlowly is Cut by means of the patterns.
func cutSlowly(line string) (l []api.Word, at int, e api.Errno) {
	if len(line) > 400 {
		return nil, 0, api.ErrMany
	}
next:
	for at < len(line) && line[at] != '#' {
		if line[at] == ' ' {
			at++
			continue
		}
		for _, p := range patterns {
			found := p.form.FindString(line[at:])
			if found == "" {
				continue
			}
			s := found
			if p.kind == api.WText {
				s = strings.NewReplacer(`\"`, `"`, `\\`, `\`).Replace(found[1 : len(found)-1])
			}
			if len(s) > p.most {
				return nil, at, api.ErrMany
			}
			l = append(l, api.Word{Kind: p.kind, S: s, At: at})
			at += len(found)
			continue next
		}
		n := len(broken.FindString(line[at:]))
		if n > 0 && at+n == len(line) {
			return nil, at, api.ErrShort
		}
		return nil, at + n, api.ErrForm
	}
	return l, len(line), api.OK
}

// randomLine returns a line of up to 400 pieces that often form words.
func randomLine(r *rand.Rand) string {
	pieces := append(signs(), " ", " ", " ", "a", "Zz", "_", "0", "7", "12", "-3", ".", ".", "..", "/", "-", `"`, `"`, `\"`, `\\`, `"ab"`, `"c d"`, "abcdef", "123456", "1.5")
	rare := []string{`\`, "#", "\x00", "?", "\t", "~", "ä", "\xff"}
	var b strings.Builder
	for range r.Intn(60) {
		piece := pieces[r.Intn(len(pieces))]
		if r.Intn(40) == 0 {
			piece = rare[r.Intn(len(rare))]
		}
		if r.Intn(60) == 0 {
			piece = strings.Repeat(piece, r.Intn(70))
		}
		b.WriteString(piece)
	}
	return b.String()
}

// P6.2, P6.3
func TestCutOfManyLines(t *testing.T) {
	r := rand.New(rand.NewSource(6))
	seen := map[api.Errno]int{}
	for range 100000 {
		line := randomLine(r)
		want, wantAt, wantE := cutSlowly(line)
		l, at, e := words.Cut(line)
		if !slices.Equal(l, want) || at != wantAt || e != wantE {
			t.Fatalf("Cut(%q) = %v, %d, %d, want %v, %d, %d", line, l, at, e, want, wantAt, wantE)
		}
		seen[e]++
		if e == api.OK {
			checkJoin(t, l)
		}
	}
	for _, e := range []api.Errno{api.OK, api.ErrMany, api.ErrShort, api.ErrForm} {
		if seen[e] < 100 {
			t.Errorf("only %d lines with error %d", seen[e], e)
		}
	}
}

// checkJoin checks that the words of a line are joined to a line with the same words.
func checkJoin(t *testing.T, l []api.Word) {
	t.Helper()
	kept := slices.Clone(l)
	line, e := words.Join(l...)
	if !slices.Equal(l, kept) {
		t.Fatalf("Join changed its arguments %v to %v", kept, l)
	}
	if e == api.ErrMany && line == "" {
		return // the blanks in between can make the line too long
	}
	back, _, _ := words.Cut(line)
	for i := range back {
		back[i].At = 0
	}
	for i := range kept {
		kept[i].At = 0
	}
	if e != api.OK || !slices.Equal(back, kept) {
		t.Fatalf("Join(%v) = %q, %d, which has the words %v", kept, line, e, back)
	}
}

// P6.3
func TestQuote(t *testing.T) {
	for s, want := range map[string]string{
		"": `""`, " ": `" "`, "a b": `"a b"`, `a"b`: `"a\"b"`, `\`: `"\\"`, `\"`: `"\\\""`, "#": `"#"`, "it's": `"it's"`, "~": `"~"`,
		strings.Repeat("x", 60): `"` + strings.Repeat("x", 60) + `"`, strings.Repeat(`"`, 60): `"` + strings.Repeat(`\"`, 60) + `"`,
	} {
		if q, e := words.Quote(s); q != want || e != api.OK {
			t.Errorf("Quote(%q) = %q, %d, want %q", s, q, e, want)
		}
		if l, _, e := words.Cut(want); !slices.Equal(l, []api.Word{text(s, 0)}) || e != api.OK {
			t.Errorf("Cut(%q) = %v, %d", want, l, e)
		}
	}
	for _, s := range []string{"\n", "a\x7f", "\x1f", "ä", "\xff", strings.Repeat("x", 61), "\x00" + strings.Repeat("x", 60)} {
		if q, e := words.Quote(s); q != "" || e != api.ErrForm {
			t.Errorf("Quote(%q) = %q, %d, want ErrForm", s, q, e)
		}
	}
}

// P6.3
func TestJoin(t *testing.T) {
	for _, c := range []struct {
		l    []api.Word
		line string
	}{
		{nil, ""},
		{[]api.Word{name("a", 0)}, "a"},
		{[]api.Word{name("post", 77), number("-1.50", -5), text("a b", math.MinInt), sign("..", math.MaxInt)}, `post -1.50 "a b" ..`},
		{[]api.Word{sign("-", 0), number("1", 0)}, "- 1"},
		{[]api.Word{sign("<", 0), sign("=", 0)}, "< ="},
		{[]api.Word{number("1", 0), number("-2", 0)}, "1 -2"},
		{[]api.Word{text("", 0), text(`"`, 0), text(`\`, 0), text("#", 0)}, `"" "\"" "\\" "#"`},
	} {
		if line, e := words.Join(c.l...); line != c.line || e != api.OK {
			t.Errorf("Join(%v) = %q, %d, want %q", c.l, line, e, c.line)
		}
	}
	for _, s := range signs() {
		if line, e := words.Join(sign(s, 3), sign(s, 0)); line != s+" "+s || e != api.OK {
			t.Errorf("Join of two %q = %q, %d", s, line, e)
		}
	}
}

// P6.3
func TestJoinOfWrongWords(t *testing.T) {
	long := strings.Repeat("a", 401)
	for _, w := range []api.Word{
		{}, {Kind: 0, S: "a"}, {Kind: 5, S: "a"}, {Kind: -1, S: "1"}, {Kind: math.MaxInt, S: "("}, {Kind: math.MinInt, S: "a"},
		name("", 0), name("a b", 0), name(" a", 0), name("a ", 0), name("a#", 0), name("1", 0), name("(", 0), name("abcdefghijklm", 0), name("ä", 0), name(`"a"`, 0), name(long, 0), name("a.", 0),
		number("", 0), number("a", 0), number("-", 0), number("1 ", 0), number("1-", 0), number("1..2", 0), number("+1", 0), number(strings.Repeat("1", 61), 0), number(long, 0),
		text("\n", 0), text("ä", 0), text(strings.Repeat("x", 61), 0), text(long, 0), text("\x7f", 0),
		sign("", 0), sign(".", 0), sign("==", 0), sign("()", 0), sign("?", 0), sign("#", 0), sign(" ", 0), sign("-1", 0), sign("a", 0), sign(`""`, 0),
	} {
		for _, l := range [][]api.Word{{w}, {name("a", 0), w}, {w, name("a", 0)}} {
			if line, e := words.Join(l...); line != "" || e != api.ErrForm {
				t.Errorf("Join(%v) = %q, %d, want ErrForm", l, line, e)
			}
		}
	}
}

// P6.3
func TestJoinOfLongLines(t *testing.T) {
	var l []api.Word
	for range 200 {
		l = append(l, sign("(", 0))
	}
	if line, e := words.Join(l...); line != strings.Repeat("( ", 199)+"(" || e != api.OK {
		t.Errorf("399 bytes: %q, %d", line, e)
	}
	l[0] = name("ab", 0)
	if line, e := words.Join(l...); len(line) != 400 || e != api.OK {
		t.Errorf("400 bytes: %q, %d", line, e)
	}
	l[7] = sign("..", 0)
	if line, e := words.Join(l...); line != "" || e != api.ErrMany {
		t.Errorf("401 bytes: %q, %d", line, e)
	}
	// A wrong word comes first, even behind a line that is too long.
	for range 300 {
		l = append(l, text(`"`, 0))
	}
	l = append(l, name("a b", 0))
	if line, e := words.Join(l...); line != "" || e != api.ErrForm {
		t.Errorf("a wrong word: %q, %d", line, e)
	}
}
