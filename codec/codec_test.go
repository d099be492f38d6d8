package codec_test

import (
	"bytes"
	"encoding/binary"
	"math"
	"math/big"
	"math/rand"
	"reflect"
	"slices"
	"strconv"
	"strings"
	"testing"

	"accounting/api"
	"accounting/codec"
	"accounting/entry"
)

const most, least = math.MaxInt, math.MinInt

// integers are numbers at the edges of groups and of their range.
func integers() []int {
	l := []int{0, 1, -1, 2, -2, 3, -3, 100, most, least, most - 1, least + 1}
	for bit := range 63 {
		n := 1 << bit
		l = append(l, n-1, n, n+1, -n-1, -n, -n+1)
	}
	return l
}

// groups returns n bytes of at least 128, followed by the last ones.
func groups(n int, last ...byte) []byte {
	return append(bytes.Repeat([]byte{128}, n), last...)
}

// P13.1
func TestPutInt(t *testing.T) {
	for _, c := range []struct {
		n int
		b []byte
	}{
		{0, []byte{0}}, {-1, []byte{1}}, {1, []byte{2}}, {-3, []byte{5}}, {63, []byte{126}}, {-64, []byte{127}}, {64, []byte{128, 1}}, {-65, []byte{129, 1}}, {100, []byte{200, 1}},
		{8191, []byte{254, 127}}, {8192, []byte{128, 128, 1}}, {most, []byte{254, 255, 255, 255, 255, 255, 255, 255, 255, 1}}, {least, []byte{255, 255, 255, 255, 255, 255, 255, 255, 255, 1}},
	} {
		if b := codec.PutInt(c.n); !bytes.Equal(b, c.b) {
			t.Errorf("PutInt(%d) = %v, want %v", c.n, b, c.b)
		}
	}
}

// P13.1: the library has the same encoding of integers.
func TestIntegersAndBack(t *testing.T) {
	r := rand.New(rand.NewSource(131))
	l := integers()
	for range 20000 {
		l = append(l, int(r.Uint64()>>r.Intn(64)), -int(r.Uint64()>>r.Intn(64)))
	}
	for _, n := range l {
		b := codec.PutInt(n)
		if want := binary.AppendVarint(nil, int64(n)); !bytes.Equal(b, want) {
			t.Fatalf("PutInt(%d) = %v, want %v", n, b, want)
		}
		for _, after := range [][]byte{nil, {0}, {128}, {255, 255}} {
			if m, used, e := codec.TakeInt(append(slices.Clone(b), after...)); m != n || used != len(b) || e != api.OK {
				t.Fatalf("TakeInt(%v, then %v) = %d, %d, %d, want %d", b, after, m, used, e, n)
			}
		}
		for i := range b {
			if m, used, e := codec.TakeInt(b[:i]); m != 0 || used != 0 || e != api.ErrShort {
				t.Fatalf("TakeInt(%v) = %d, %d, %d, want ErrShort", b[:i], m, used, e)
			}
		}
	}
}

// takeInt returns what TakeInt returns, as the chapter describes it.
func takeInt(b []byte) (n, used int, e api.Errno) {
	last := slices.IndexFunc(b, func(x byte) bool { return x < 128 })
	switch {
	case last < 0 && len(b) < 10:
		return 0, 0, api.ErrShort
	case last < 0 || last >= 10:
		return 0, 0, api.ErrForm
	}
	sum := new(big.Int)
	for i := last; i >= 0; i-- {
		sum.Add(sum.Lsh(sum, 7), big.NewInt(int64(b[i]%128)))
	}
	if last > 0 && b[last] == 0 || sum.BitLen() > 64 {
		return 0, 0, api.ErrForm
	}
	negative := sum.Bit(0) == 1
	half := new(big.Int).Rsh(sum, 1)
	if negative {
		half.Neg(half.Add(half, big.NewInt(1)))
	}
	return int(half.Int64()), last + 1, api.OK
}

// P13.1
func TestTakeInt(t *testing.T) {
	l := [][]byte{nil, {}, {200, 1, 7}, {128, 0}, {128}, {128, 128, 0}, {255, 0}, groups(9), groups(10), groups(11), groups(10, 0), groups(10, 1), groups(9, 0), groups(9, 1), groups(9, 2), groups(9, 3), groups(9, 127), groups(9, 128), groups(9, 129, 1), groups(8, 0), groups(8, 127), groups(8, 127, 5)}
	for a := range 256 {
		l = append(l, []byte{byte(a)})
		for b := range 256 {
			l = append(l, []byte{byte(a), byte(b)}, groups(8, byte(a), byte(b)), groups(1, byte(a), byte(b)))
		}
	}
	r := rand.New(rand.NewSource(132))
	for range 40000 {
		b := make([]byte, r.Intn(13))
		for i := range b {
			b[i] = byte(r.Intn(256)) | 128
			if r.Intn(12) == 0 {
				b[i] = byte(r.Intn(256)) >> r.Intn(9)
			}
		}
		l = append(l, b)
	}
	counts := map[api.Errno]int{}
	for _, b := range l {
		n, used, e := takeInt(b)
		counts[e]++
		if gotN, gotUsed, gotE := codec.TakeInt(b); gotN != n || gotUsed != used || gotE != e {
			t.Fatalf("TakeInt(%v) = %d, %d, %d, want %d, %d, %d", b, gotN, gotUsed, gotE, n, used, e)
		}
		if e == api.OK && !bytes.Equal(codec.PutInt(n), b[:used]) {
			t.Fatalf("PutInt(%d) = %v, want %v", n, codec.PutInt(n), b[:used])
		}
	}
	for _, e := range []api.Errno{api.OK, api.ErrForm, api.ErrShort} {
		if counts[e] < 1000 {
			t.Errorf("error %d occurred only %d times", e, counts[e])
		}
	}
}

// P13.2
func TestPutText(t *testing.T) {
	all := ""
	for c := byte(32); c <= 126; c++ {
		all += string(rune(c))
	}
	for _, s := range []string{"", "a", "ab", " ", "~", "\"\\", all[:60], all[35:], strings.Repeat("x", 60)} {
		want := append([]byte{byte(2 * len(s))}, s...)
		b, e := codec.PutText(s)
		if !bytes.Equal(b, want) || e != api.OK {
			t.Errorf("PutText(%q) = %v, %d", s, b, e)
		}
		if got, used, e := codec.TakeText(append(b, 7, 200)); got != s || used != len(want) || e != api.OK {
			t.Errorf("TakeText(%v) = %q, %d, %d", b, got, used, e)
		}
	}
	for _, s := range []string{"\n", "a\n", "\x1f", "\x7f", "\x00", "\xff", "ä", "a\tb", strings.Repeat("x", 61), strings.Repeat("x", 1000)} {
		if b, e := codec.PutText(s); len(b) != 0 || e != api.ErrForm {
			t.Errorf("PutText(%q) = %v, %d, want ErrForm", s, b, e)
		}
	}
}

// withLength returns the encoding of a length, followed by the bytes of s.
func withLength(n int, s string) []byte {
	return append(binary.AppendVarint(nil, int64(n)), s...)
}

// P13.2: each case has the errors of the later cases, too, as far as they can occur together.
func TestTakeText(t *testing.T) {
	for _, c := range []struct {
		b    []byte
		s    string
		used int
		e    api.Errno
	}{
		{nil, "", 0, api.ErrShort}, {[]byte{128}, "", 0, api.ErrShort}, {[]byte{132, 0, 97, 98}, "", 0, api.ErrForm}, {groups(9, 2), "", 0, api.ErrForm}, {groups(10), "", 0, api.ErrForm},
		{withLength(-1, ""), "", 0, api.ErrMany}, {withLength(-1, "\n"), "", 0, api.ErrMany}, {withLength(61, ""), "", 0, api.ErrMany}, {withLength(61, "\n"+strings.Repeat("x", 80)), "", 0, api.ErrMany}, {withLength(61, strings.Repeat("x", 80)), "", 0, api.ErrMany},
		{withLength(most, "x"), "", 0, api.ErrMany}, {withLength(least, "x"), "", 0, api.ErrMany}, {withLength(-2, "x"), "", 0, api.ErrMany},
		{[]byte{4, 97}, "", 0, api.ErrShort}, {[]byte{4, 7}, "", 0, api.ErrShort}, {withLength(60, strings.Repeat("\n", 59)), "", 0, api.ErrShort}, {[]byte{2}, "", 0, api.ErrShort},
		{[]byte{2, 7}, "", 0, api.ErrForm}, {[]byte{2, 31}, "", 0, api.ErrForm}, {[]byte{2, 127}, "", 0, api.ErrForm}, {[]byte{4, 97, 200}, "", 0, api.ErrForm}, {[]byte{4, 195, 164}, "", 0, api.ErrForm},
		{[]byte{0}, "", 1, api.OK}, {[]byte{0, 7}, "", 1, api.OK}, {[]byte{4, 97, 98}, "ab", 3, api.OK}, {[]byte{2, 97, 200}, "a", 2, api.OK}, {[]byte{2, 32}, " ", 2, api.OK}, {[]byte{2, 126}, "~", 2, api.OK},
		{withLength(60, strings.Repeat("x", 60)), strings.Repeat("x", 60), 61, api.OK}, {withLength(60, strings.Repeat("x", 61)), strings.Repeat("x", 60), 61, api.OK},
	} {
		if s, used, e := codec.TakeText(c.b); s != c.s || used != c.used || e != c.e {
			t.Errorf("TakeText(%v) = %q, %d, %d, want %q, %d, %d", c.b, s, used, e, c.s, c.used, c.e)
		}
	}
}

// example returns a valid entry.
func example() api.Entry {
	return api.Entry{No: 1, Entity: "a", Book: 2, Value: 1, Kind: api.Normal, Ref: "r 1", By: "u", Reverses: 3, Lines: []api.Line{
		{Account: "10", Cur: "EUR", Amount: 5, Base: 7, Partner: "b", Party: "p1", Tags: []api.Tag{{Name: "d", Value: "x"}, {Name: "e", Value: "yz"}}},
		{Account: "40", Cur: "EUR", Amount: -5, Base: -7},
	}}
}

// exampleBytes returns the encoding of the example.
func exampleBytes() []byte {
	return []byte{2, 2, 'a', 4, 2, 2, 6, 'r', ' ', '1', 2, 'u', 6, 4,
		4, '1', '0', 6, 'E', 'U', 'R', 10, 14, 2, 'b', 4, 'p', '1', 4, 2, 'd', 2, 'x', 2, 'e', 4, 'y', 'z',
		4, '4', '0', 6, 'E', 'U', 'R', 9, 13, 0, 0, 0}
}

// copied returns an entry that shares no memory with x.
func copied(x api.Entry) api.Entry {
	x.Lines = slices.Clone(x.Lines)
	for i := range x.Lines {
		x.Lines[i].Tags = slices.Clone(x.Lines[i].Tags)
	}
	return x
}

// field is the encoding of a field, which is an integer or a text.
type field struct {
	b    []byte
	text bool
}

// number returns the field of an integer.
func number(n int) field {
	return field{binary.AppendVarint(nil, int64(n)), false}
}

// text returns the field of a text, whether it is plain or not.
func text(s string) field {
	return field{withLength(len(s), s), true}
}

// fields returns the encoding of an entry, field by field, whether it is valid or not.
func fields(x api.Entry) []field {
	l := []field{number(x.No), text(x.Entity), number(x.Book), number(x.Value), number(x.Kind), text(x.Ref), text(x.By), number(x.Reverses), number(len(x.Lines))}
	for _, y := range x.Lines {
		l = append(l, text(y.Account), text(y.Cur), number(y.Amount), number(y.Base), text(y.Partner), text(y.Party), number(len(y.Tags)))
		for _, t := range y.Tags {
			l = append(l, text(t.Name), text(t.Value))
		}
	}
	return l
}

// joined returns the bytes of all fields.
func joined(l []field) (b []byte) {
	for _, f := range l {
		b = append(b, f.b...)
	}
	return b
}

// randomEntry returns an entry that is valid, if its lines can be balanced.
func randomEntry(r *rand.Rand) api.Entry {
	codes := []string{"a", "b", "Z9", "abcdefghijkl", "_", "40", "12"}
	code := func() string { return codes[r.Intn(len(codes))] }
	size := func() int { return 1 + int(r.Int63n(api.MaxAmount))>>r.Intn(40) }
	x := api.Entry{No: r.Intn(4001), Entity: code(), Book: r.Intn(api.MaxDay + 1), Value: r.Intn(api.MaxDay + 1), Kind: 1 + r.Intn(7), Ref: strings.Repeat("~ x", r.Intn(21)), By: code(), Reverses: r.Intn(4001) * r.Intn(2)}
	for range 1 + r.Intn(4) {
		l := api.Line{Account: code(), Cur: []string{"EUR", "USD", "JPY"}[r.Intn(3)], Amount: size(), Base: size()}
		if r.Intn(2) == 0 {
			l.Partner = code()
		}
		if r.Intn(2) == 0 {
			l.Party = code()
		}
		for i := range r.Intn(7) {
			l.Tags = append(l.Tags, api.Tag{Name: "t" + strconv.Itoa(i), Value: code()})
		}
		x.Lines = append(x.Lines, l, api.Line{Account: code(), Cur: l.Cur, Amount: -l.Amount, Base: -l.Base})
	}
	return x
}

// P13.3
func TestPut(t *testing.T) {
	x := example()
	b, e := codec.Put(x)
	if !bytes.Equal(b, exampleBytes()) || e != api.OK {
		t.Errorf("Put of the example = %v, %d, want %v", b, e, exampleBytes())
	}
	again, _ := codec.Put(x)
	clear(b)
	if !bytes.Equal(again, exampleBytes()) {
		t.Error("two results of Put share memory")
	}
	if !reflect.DeepEqual(x, example()) {
		t.Errorf("Put changed the entry to %v", x)
	}
	r := rand.New(rand.NewSource(133))
	for range 5000 {
		x := randomEntry(r)
		if b, e := codec.Put(x); !bytes.Equal(b, joined(fields(x))) || e != api.OK {
			t.Fatalf("Put(%v) = %v, %d", x, b, e)
		}
	}
}

// spoiled are the errors of entry's Check, and changes of an entry which lead to them.
func spoiled() []struct {
	e      api.Errno
	change func(x *api.Entry)
} {
	return []struct {
		e      api.Errno
		change func(x *api.Entry)
	}{
		{api.ErrRange, func(x *api.Entry) { x.No = 4001 }}, {api.ErrRange, func(x *api.Entry) { x.No = -1 }}, {api.ErrRange, func(x *api.Entry) { x.Reverses = most }}, {api.ErrRange, func(x *api.Entry) { x.Reverses = least }},
		{api.ErrName, func(x *api.Entry) { x.Entity = "" }}, {api.ErrName, func(x *api.Entry) { x.Entity = strings.Repeat("a", 13) }}, {api.ErrName, func(x *api.Entry) { x.By = "a b" }},
		{api.ErrDate, func(x *api.Entry) { x.Book = -1 }}, {api.ErrDate, func(x *api.Entry) { x.Value = api.MaxDay + 1 }},
		{api.ErrKind, func(x *api.Entry) { x.Kind = 0 }}, {api.ErrKind, func(x *api.Entry) { x.Kind = 8 }},
		{api.ErrArg, func(x *api.Entry) { x.Lines = nil }}, {api.ErrArg, func(x *api.Entry) { x.Lines = x.Lines[:1] }},
		{api.ErrName, func(x *api.Entry) { x.Lines[1].Account = "" }}, {api.ErrName, func(x *api.Entry) { x.Lines[1].Partner = "?" }}, {api.ErrCur, func(x *api.Entry) { x.Lines[0].Cur = "eur" }},
		{api.ErrOver, func(x *api.Entry) { x.Lines[0].Amount = api.MaxAmount + 1 }}, {api.ErrOver, func(x *api.Entry) { x.Lines[0].Base = least }}, {api.ErrArg, func(x *api.Entry) { x.Lines[0].Amount, x.Lines[0].Base = 0, 0 }},
		{api.ErrTag, func(x *api.Entry) { x.Lines[1].Tags = []api.Tag{{Name: "d"}} }}, {api.ErrTag, func(x *api.Entry) { slices.Reverse(x.Lines[0].Tags) }},
		{api.ErrBalance, func(x *api.Entry) { x.Lines[0].Amount = 6 }}, {api.ErrBalance, func(x *api.Entry) { x.Lines[1].Cur = "USD" }},
	}
}

// P13.3
func TestErrorsOfCheck(t *testing.T) {
	for i, c := range spoiled() {
		x := example()
		c.change(&x)
		if b, e := codec.Put(x); len(b) != 0 || e != c.e {
			t.Errorf("case %d: Put(%v) = %v, %d, want %d", i, x, b, e, c.e)
		}
		b := joined(fields(x))
		if y, used, e := codec.Take(b); !reflect.DeepEqual(y, api.Entry{}) || used != 0 || e != c.e {
			t.Errorf("case %d: Take(%v) = %v, %d, %d, want %d", i, b, y, used, e, c.e)
		}
		// The entry is checked when it has been read completely.
		if y, used, e := codec.Take(b[:len(b)-1]); !reflect.DeepEqual(y, api.Entry{}) || used != 0 || e != api.ErrShort {
			t.Errorf("case %d: Take(%v) = %v, %d, %d, want ErrShort", i, b[:len(b)-1], y, used, e)
		}
	}
	for _, change := range []func(x *api.Entry){func(x *api.Entry) { x.Ref = "a\nb" }, func(x *api.Entry) { x.Ref = strings.Repeat("a", 61) }} {
		x := example()
		change(&x)
		if b, e := codec.Put(x); len(b) != 0 || e != api.ErrForm {
			t.Errorf("Put(%v) = %v, %d, want ErrForm", x, b, e)
		}
	}
	x := example()
	for len(x.Lines) < 102 {
		x.Lines = append(x.Lines, x.Lines[:2]...)
	}
	if b, e := codec.Put(x); len(b) != 0 || e != api.ErrMany {
		t.Errorf("Put with %d lines = %v, %d, want ErrMany", len(x.Lines), b, e)
	}
}

// P13.3
func TestTake(t *testing.T) {
	for _, after := range [][]byte{nil, {0}, {255}, exampleBytes()} {
		b := append(exampleBytes(), after...)
		x, used, e := codec.Take(b)
		if !entry.Same(x, example()) || used != len(exampleBytes()) || e != api.OK {
			t.Errorf("Take(%v) = %v, %d, %d", b, x, used, e)
		}
		if !bytes.Equal(b, append(exampleBytes(), after...)) {
			t.Errorf("Take changed its argument to %v", b)
		}
		clear(b)
		if !entry.Same(x, example()) {
			t.Errorf("the entry shares memory with the bytes: %v", x)
		}
	}
	r := rand.New(rand.NewSource(134))
	for range 5000 {
		x := randomEntry(r)
		b := joined(fields(x))
		if y, used, e := codec.Take(b); !entry.Same(x, y) || used != len(b) || e != api.OK {
			t.Fatalf("Take(%v) = %v, %d, %d, want %v", b, y, used, e, x)
		}
	}
}

// P13.3
func TestLargestEntry(t *testing.T) {
	x := api.Entry{No: 4000, Entity: "abcdefghijkl", Book: api.MaxDay, Value: api.MaxDay, Kind: api.Recost, Ref: strings.Repeat("~", 60), By: "ABCDEFGHIJKL", Reverses: 4000}
	var tags []api.Tag
	for i := range api.MaxTags {
		tags = append(tags, api.Tag{Name: "abcdefghijk" + strconv.Itoa(i), Value: "abcdefghijkl"})
	}
	for i := range api.MaxLines {
		sign := 1 - i%2*2
		x.Lines = append(x.Lines, api.Line{Account: "abcdefghijkl", Cur: "EUR", Amount: sign * api.MaxAmount, Base: sign * api.MaxAmount, Partner: "abcdefghijkl", Party: "abcdefghijkl", Tags: tags})
	}
	b, e := codec.Put(x)
	if !bytes.Equal(b, joined(fields(x))) || e != api.OK {
		t.Fatalf("Put of the largest entry = %d bytes, %d", len(b), e)
	}
	y, used, e := codec.Take(b)
	if !entry.Same(x, y) || used != len(b) || e != api.OK {
		t.Fatalf("Take of the largest entry = %d, %d", used, e)
	}
	clear(y.Lines[0].Tags)
	if y.Lines[1].Tags[0] != tags[0] {
		t.Error("lines of a result share memory")
	}
}

// P13.3: counts of lines and tags, and then nothing or as many lines as the count says.
func TestTakeCounts(t *testing.T) {
	all := fields(example())
	head, place := joined(all[:8]), joined(all[9:15])
	for _, c := range []struct {
		n           int
		lines, tags api.Errno
	}{
		{-1, api.ErrMany, api.ErrMany}, {least, api.ErrMany, api.ErrMany}, {most, api.ErrMany, api.ErrMany}, {101, api.ErrMany, api.ErrMany}, {100, api.ErrShort, api.ErrMany}, {7, api.ErrShort, api.ErrMany}, {6, api.ErrShort, api.ErrShort}, {1, api.ErrShort, api.ErrShort},
	} {
		b := slices.Concat(head, number(c.n).b)
		if _, used, e := codec.Take(b); used != 0 || e != c.lines {
			t.Errorf("Take with %d lines = %d, %d, want %d", c.n, used, e, c.lines)
		}
		b = slices.Concat(head, number(2).b, place, number(c.n).b)
		if _, used, e := codec.Take(b); used != 0 || e != c.tags {
			t.Errorf("Take with %d tags = %d, %d, want %d", c.n, used, e, c.tags)
		}
	}
	for _, n := range []int{101, 200} {
		b := slices.Concat(head, number(n).b, bytes.Repeat(slices.Concat(place, number(0).b), n))
		if _, used, e := codec.Take(b); used != 0 || e != api.ErrMany {
			t.Errorf("Take with %d complete lines = %d, %d, want ErrMany", n, used, e)
		}
	}
}

// P13.3: the first field with an error counts, whatever follows.
func TestTakeFirstError(t *testing.T) {
	all := fields(example())
	for i, f := range all {
		for _, c := range []struct {
			b           []byte
			e, textOnly api.Errno
		}{
			{b: []byte{128, 0}, e: api.ErrForm}, {b: groups(10), e: api.ErrForm}, {b: groups(9, 2), e: api.ErrForm},
			{b: []byte{1}, textOnly: api.ErrMany}, {b: []byte{122}, textOnly: api.ErrMany}, {b: []byte{2, 7}, textOnly: api.ErrForm}, {b: []byte{2, 200}, textOnly: api.ErrForm},
		} {
			want := c.e
			if f.text {
				want = max(want, c.textOnly)
			}
			if want == api.OK {
				continue
			}
			for _, after := range [][]byte{nil, joined(all[i+1:]), {255}, {1, 1, 1, 1, 1, 1}} {
				b := slices.Concat(joined(all[:i]), c.b, after)
				if x, used, e := codec.Take(b); !reflect.DeepEqual(x, api.Entry{}) || used != 0 || e != want {
					t.Errorf("field %d: Take(%v) = %v, %d, %d, want %d", i, b, x, used, e, want)
				}
			}
		}
	}
}

// reader reads an entry as the chapter describes it; after the first error it reads nothing.
type reader struct {
	b    []byte
	used int
	e    api.Errno
}

func (r *reader) number() int {
	if r.e != api.OK {
		return 0
	}
	n, used, e := takeInt(r.b[r.used:])
	r.used, r.e = r.used+used, e
	return n
}

func (r *reader) text() string {
	n := r.number()
	rest := r.b[r.used:]
	switch {
	case r.e != api.OK:
		return ""
	case n < 0 || n > 60:
		r.e = api.ErrMany
		return ""
	case n > len(rest):
		r.e = api.ErrShort
		return ""
	}
	for _, c := range rest[:n] {
		if c < 32 || c > 126 {
			r.e = api.ErrForm
			return ""
		}
	}
	r.used += n
	return string(rest[:n])
}

func (r *reader) count(most int) int {
	n := r.number()
	if r.e == api.OK && (n < 0 || n > most) {
		r.e = api.ErrMany
		return 0
	}
	return n
}

// take returns what Take returns, as the chapter describes it.
func take(b []byte) (x api.Entry, used int, e api.Errno) {
	r := &reader{b: b}
	x.No = r.number()
	x.Entity = r.text()
	x.Book = r.number()
	x.Value = r.number()
	x.Kind = r.number()
	x.Ref = r.text()
	x.By = r.text()
	x.Reverses = r.number()
	x.Lines = make([]api.Line, r.count(100))
	for i := range x.Lines {
		l := &x.Lines[i]
		l.Account = r.text()
		l.Cur = r.text()
		l.Amount = r.number()
		l.Base = r.number()
		l.Partner = r.text()
		l.Party = r.text()
		l.Tags = make([]api.Tag, r.count(6))
		for k := range l.Tags {
			l.Tags[k].Name = r.text()
			l.Tags[k].Value = r.text()
		}
	}
	if r.e == api.OK {
		_, r.e = entry.Check(x)
	}
	if r.e != api.OK {
		return api.Entry{}, 0, r.e
	}
	return x, r.used, api.OK
}

// P13.3
func TestTakeDamaged(t *testing.T) {
	r := rand.New(rand.NewSource(135))
	counts := map[api.Errno]int{}
	for range 60000 {
		b := joined(fields(randomEntry(r)))
		for range 1 + r.Intn(2) {
			at := r.Intn(len(b))
			switch r.Intn(5) {
			case 0:
				b[at] = byte(r.Intn(256))
			case 1:
				b[at] ^= 1 << r.Intn(8)
			case 2:
				b = slices.Delete(b, at, at+1)
			case 3:
				b = slices.Insert(b, at, byte(r.Intn(256)))
			case 4:
				b = b[:at+1]
			}
		}
		x, used, e := take(b)
		counts[e]++
		gotX, gotUsed, gotE := codec.Take(b)
		if !entry.Same(gotX, x) || gotUsed != used || gotE != e {
			t.Fatalf("Take(%v) = %v, %d, %d, want %v, %d, %d", b, gotX, gotUsed, gotE, x, used, e)
		}
		if e != api.OK {
			continue
		}
		if again, e := codec.Put(x); !bytes.Equal(again, b[:used]) || e != api.OK {
			t.Fatalf("Put(%v) = %v, %d, want %v", x, again, e, b[:used])
		}
	}
	for _, e := range []api.Errno{api.OK, api.ErrForm, api.ErrShort, api.ErrMany, api.ErrBalance, api.ErrName, api.ErrTag, api.ErrCur} {
		if counts[e] < 100 {
			t.Errorf("error %d occurred only %d times", e, counts[e])
		}
	}
}

// P13.4
func TestFraming(t *testing.T) {
	r := rand.New(rand.NewSource(136))
	for range 300 {
		x := randomEntry(r)
		b, _ := codec.Put(x)
		for i := range b {
			if y, used, e := codec.Take(b[:i]); !reflect.DeepEqual(y, api.Entry{}) || used != 0 || e != api.ErrShort {
				t.Fatalf("Take(%v) = %v, %d, %d, want ErrShort", b[:i], y, used, e)
			}
		}
		// An entry with more lines or tags is a longer encoding that begins alike.
		more := copied(x)
		more.Lines = append(more.Lines, more.Lines[:2]...)
		for _, y := range []api.Entry{randomEntry(r), more} {
			c, e := codec.Put(y)
			if e != api.OK || bytes.HasPrefix(c, b) && !bytes.Equal(c, b) || bytes.HasPrefix(b, c) && !bytes.Equal(c, b) {
				t.Fatalf("the encodings %v and %v (%d): one is a prefix of the other", b, c, e)
			}
		}
	}
}

// P13.3, P13.4: entries that are written one after the other are read one after the other.
func TestSequence(t *testing.T) {
	r := rand.New(rand.NewSource(137))
	var l []api.Entry
	var b []byte
	for range 50 {
		x := randomEntry(r)
		l = append(l, x)
		part, _ := codec.Put(x)
		b = append(b, part...)
	}
	for i, want := range l {
		x, used, e := codec.Take(b)
		if !entry.Same(x, want) || e != api.OK {
			t.Fatalf("entry %d is %v, %d, want %v", i, x, e, want)
		}
		b = b[used:]
	}
	if len(b) != 0 {
		t.Errorf("%d bytes are left", len(b))
	}
}
