package store_test

import (
	"bytes"
	"encoding/binary"
	"hash/fnv"
	"math"
	"math/rand"
	"reflect"
	"slices"
	"strconv"
	"strings"
	"testing"

	"accounting/api"
	"accounting/chain"
	"accounting/codec"
	"accounting/entry"
	"accounting/store"
)

const most, least = math.MaxInt, math.MinInt

// example returns a valid entry with two lines.
func example(no int) api.Entry {
	return api.Entry{No: no, Entity: "a", Book: 2, Value: 1, Kind: api.Normal, Ref: "r 1", By: "u", Lines: []api.Line{
		{Account: "10", Cur: "EUR", Amount: 5, Base: 7, Partner: "b", Party: "p1", Tags: []api.Tag{{Name: "d", Value: "x"}, {Name: "e", Value: "yz"}}},
		{Account: "40", Cur: "EUR", Amount: -5, Base: -7},
	}}
}

// randomEntry returns a valid entry.
func randomEntry(r *rand.Rand, no int) api.Entry {
	x := api.Entry{No: no, Entity: "e" + strconv.Itoa(r.Intn(9)), Book: r.Intn(api.MaxDay + 1), Value: r.Intn(api.MaxDay + 1), Kind: 1 + r.Intn(7), Ref: strings.Repeat("~ x", r.Intn(4)), By: "u", Reverses: r.Intn(4001) * r.Intn(2)}
	for range 1 + r.Intn(3) {
		l := api.Line{Account: "1", Cur: "EUR", Amount: 1 + r.Intn(api.MaxAmount), Base: r.Intn(5)}
		for i := range r.Intn(4) {
			l.Tags = append(l.Tags, api.Tag{Name: "t" + strconv.Itoa(i), Value: "v"})
		}
		x.Lines = append(x.Lines, l, api.Line{Account: "2", Cur: l.Cur, Amount: -l.Amount, Base: -l.Base})
	}
	return x
}

// encoded returns the payload of an entry.
func encoded(t *testing.T, x api.Entry) []byte {
	t.Helper()
	b, e := codec.Put(x)
	if e != api.OK {
		t.Fatalf("Put(%v) = %d", x, e)
	}
	return b
}

// framed returns the frames of any payloads, and the last checksum. The library has the same checksum for the bytes of all payloads and their lengths.
func framed(payloads ...[]byte) (b []byte, last uint64) {
	sum := fnv.New64a()
	for _, p := range payloads {
		length := binary.BigEndian.AppendUint32(nil, uint32(len(p)))
		sum.Write(p)
		sum.Write(length)
		b = append(b, length...)
		b = binary.BigEndian.AppendUint32(b, ^uint32(len(p)))
		b = append(b, p...)
		b = binary.BigEndian.AppendUint64(b, sum.Sum64())
	}
	return b, sum.Sum64()
}

// logOf returns a log with these entries.
func logOf(t *testing.T, l ...api.Entry) *store.Log {
	t.Helper()
	g := store.New()
	for _, x := range l {
		if e := g.Append(x); e != api.OK {
			t.Fatalf("Append(%v) = %d", x, e)
		}
	}
	return g
}

// check fails unless the log has exactly these entries, with their frames.
func check(t *testing.T, g *store.Log, l ...api.Entry) {
	t.Helper()
	var payloads [][]byte
	for _, x := range l {
		payloads = append(payloads, encoded(t, x))
	}
	b, sum := framed(payloads...)
	if g.Len() != len(l) || g.Sum() != sum || !bytes.Equal(g.Bytes(), b) || !slices.EqualFunc(g.Entries(), l, entry.Same) {
		t.Fatalf("the log has %d entries, the sum %d, the bytes %v and the entries %v, want %d, %d, %v and %v", g.Len(), g.Sum(), g.Bytes(), g.Entries(), len(l), sum, b, l)
	}
}

// open fails unless Open returns a log with these entries, the number of the bytes of their frames, and this error.
func open(t *testing.T, b []byte, wanted api.Errno, l ...api.Entry) *store.Log {
	t.Helper()
	given := bytes.Clone(b)
	g, used, e := store.Open(b)
	if g == nil || used != len(g.Bytes()) || e != wanted {
		t.Fatalf("Open(%v) = %v, %d, %d, want error %d", b, g, used, e, wanted)
	}
	if !bytes.Equal(b, given) {
		t.Fatalf("Open changed %v to %v", given, b)
	}
	check(t, g, l...)
	return g
}

// P18.1
func TestEmptyLog(t *testing.T) {
	g := store.New()
	if g == nil || g.Len() != 0 || g.Sum() != chain.Start || len(g.Entries()) != 0 || len(g.Bytes()) != 0 {
		t.Errorf("New() = %v", g)
	}
	check(t, g)
}

// P18.1
func TestNilLog(t *testing.T) {
	var g *store.Log
	if g.Len() != 0 || g.Sum() != 0 || len(g.Entries()) != 0 || len(g.Bytes()) != 0 {
		t.Error("a nil log has something")
	}
	if a, b := g.Append(example(1)), g.Append(api.Entry{}); a != api.ErrNone || b != api.ErrNone {
		t.Errorf("Append returns %d, %d", a, b)
	}
}

// P18.1: the bytes of a frame, written out.
func TestFrame(t *testing.T) {
	x := api.Entry{No: 1, Entity: "a", Book: 2, Value: 1, Kind: api.Normal, By: "u", Lines: []api.Line{{Account: "1", Cur: "EUR", Amount: 5, Base: 7}, {Account: "4", Cur: "EUR", Amount: -5, Base: -7}}}
	payload := []byte{2, 2, 'a', 4, 2, 2, 0, 2, 'u', 0, 4, 2, '1', 6, 'E', 'U', 'R', 10, 14, 0, 0, 0, 2, '4', 6, 'E', 'U', 'R', 9, 13, 0, 0, 0}
	frame := append([]byte{0, 0, 0, 33, 255, 255, 255, 222}, payload...)
	frame = append(frame, chain.Bytes(chain.Next(chain.Start, payload))...)
	g := logOf(t, x)
	if !bytes.Equal(g.Bytes(), frame) || g.Sum() != chain.Next(chain.Start, payload) {
		t.Errorf("Bytes() = %v, want %v", g.Bytes(), frame)
	}
	open(t, frame, api.OK, x)
}

// P18.1, P18.2: entries of many sizes, with frames whose lengths need several bytes.
func TestAppendAndOpen(t *testing.T) {
	r := rand.New(rand.NewSource(181))
	large := example(4)
	for len(large.Lines) < api.MaxLines {
		large.Lines = append(large.Lines, large.Lines[:2]...)
	}
	l := []api.Entry{example(1), randomEntry(r, 2), example(3), large}
	for no := 5; no <= 30; no++ {
		l = append(l, randomEntry(r, no))
	}
	g := store.New()
	for i, x := range l {
		if e := g.Append(x); e != api.OK {
			t.Fatalf("Append(%v) = %d", x, e)
		}
		check(t, g, l[:i+1]...)
		open(t, g.Bytes(), api.OK, l[:i+1]...)
	}
	if len(encoded(t, large)) < 1000 {
		t.Error("the large entry is small")
	}
}

// P18.1: the errors in their order; a failed call has no effect.
func TestErrorsOfAppend(t *testing.T) {
	g := logOf(t, example(1))
	for i, c := range []struct {
		change func(x *api.Entry)
		e      api.Errno
	}{
		{func(x *api.Entry) { x.No = 1 }, api.ErrOrder}, {func(x *api.Entry) { x.No = 0 }, api.ErrOrder}, {func(x *api.Entry) { x.No = 3 }, api.ErrOrder}, {func(x *api.Entry) { x.No = 4000 }, api.ErrOrder},
		{func(x *api.Entry) { x.No = 4001 }, api.ErrRange}, {func(x *api.Entry) { x.No = -1 }, api.ErrRange}, {func(x *api.Entry) { x.No = least }, api.ErrRange}, {func(x *api.Entry) { x.Reverses = most }, api.ErrRange},
		// The errors of an entry come before that of its number.
		{func(x *api.Entry) { x.No, x.Entity = 3, "" }, api.ErrName}, {func(x *api.Entry) { x.No, x.Book = 3, -1 }, api.ErrDate}, {func(x *api.Entry) { x.No, x.Kind = 1, 0 }, api.ErrKind}, {func(x *api.Entry) { x.No, x.Ref = 1, "\n" }, api.ErrForm}, {func(x *api.Entry) { x.No, x.Lines = 1, x.Lines[:1] }, api.ErrArg}, {func(x *api.Entry) { x.No, x.Lines = 1, make([]api.Line, 101) }, api.ErrMany},
		{func(x *api.Entry) { x.No, x.Lines[1].Cur = 1, "" }, api.ErrCur}, {func(x *api.Entry) { x.No, x.Lines[0].Base = 1, least }, api.ErrOver}, {func(x *api.Entry) { x.No, x.Lines[1].Tags = 1, make([]api.Tag, 7) }, api.ErrTag}, {func(x *api.Entry) { x.No, x.Lines[1].Base = 3, -6 }, api.ErrBalance},
		{func(x *api.Entry) { x.Lines[1].Base = -6 }, api.ErrBalance},
	} {
		x := example(2)
		c.change(&x)
		if e := g.Append(x); e != c.e {
			t.Errorf("case %d: Append(%v) = %d, want %d", i, x, e, c.e)
		}
		check(t, g, example(1))
	}
	if e := store.New().Append(example(2)); e != api.ErrOrder {
		t.Errorf("Append of entry 2 to an empty log returns %d, want ErrOrder", e)
	}
}

// P18.1, P18.2: no log has more entries than there are numbers.
func TestFullLog(t *testing.T) {
	g := store.New()
	for no := 1; no <= api.MaxEntries; no++ {
		if e := g.Append(example(no)); e != api.OK {
			t.Fatalf("Append of entry %d returns %d", no, e)
		}
	}
	if a, b := g.Append(example(api.MaxEntries+1)), g.Append(example(api.MaxEntries)); a != api.ErrRange || b != api.ErrOrder || g.Len() != api.MaxEntries {
		t.Errorf("Append to a full log returns %d, %d", a, b)
	}
	h, used, e := store.Open(g.Bytes())
	if h.Len() != api.MaxEntries || h.Sum() != g.Sum() || used != len(g.Bytes()) || e != api.OK {
		t.Errorf("Open = %d entries, %d, %d", h.Len(), used, e)
	}
}

// P18.2 to P18.4: the chapter's examples.
func TestExamples(t *testing.T) {
	b := logOf(t, example(1), example(2)).Bytes()
	n := len(b) / 2
	if g, used, e := store.Open(b[:2*n-1]); g.Len() != 1 || !entry.Same(g.Entries()[0], example(1)) || used != n || e != api.ErrShort {
		t.Errorf("without its last byte: %v, %d, %d", g, used, e)
	}
	b[n+8+1]++
	if g, used, e := store.Open(b); g.Len() != 1 || !entry.Same(g.Entries()[0], example(1)) || used != n || e != api.ErrSum {
		t.Errorf("with a changed payload: %v, %d, %d", g, used, e)
	}
}

// P18.2: each case has the errors of the later ones, too, as far as they can occur together.
func TestErrorsOfOpen(t *testing.T) {
	one, two, three := encoded(t, example(1)), encoded(t, example(2)), encoded(t, example(3))
	good, _ := framed(one)
	after := func(payload []byte) []byte {
		b, _ := framed(one, payload)
		return b[len(good):]
	}
	// changed returns the frame of a payload with other bytes at an offset.
	changed := func(payload []byte, at int, l ...byte) []byte {
		b := after(payload)
		copy(b[at:], l)
		return b
	}
	unsound := append(bytes.Clone(two), 0)
	wrongName := bytes.Clone(two)
	wrongName[2] = '?'
	for _, c := range []struct {
		b []byte
		e api.Errno
	}{
		{[]byte{0}, api.ErrShort}, {[]byte{1, 2, 3, 4, 5, 6, 7}, api.ErrShort}, {after(two)[:7], api.ErrShort},
		{make([]byte, 8), api.ErrForm}, {make([]byte, 500), api.ErrForm}, {[]byte{0, 0, 0, 9, 255, 255, 255, 247}, api.ErrForm}, {[]byte{0, 0, 0, 0, 254, 255, 255, 255}, api.ErrForm}, {[]byte{0, 0, 0, 0, 255, 254, 255, 255}, api.ErrForm}, {[]byte{0, 0, 0, 0, 255, 255, 254, 255}, api.ErrForm}, {[]byte{0, 0, 0, 0, 255, 255, 255, 254}, api.ErrForm}, {[]byte{1, 2, 3, 4, 1, 2, 3, 4}, api.ErrForm},
		{[]byte{0, 0, 0, 0, 255, 255, 255, 255}, api.ErrShort}, {[]byte{0, 0, 0, 0, 255, 255, 255, 255, 1, 2, 3, 4, 5, 6, 7}, api.ErrShort}, {[]byte{255, 255, 255, 255, 0, 0, 0, 0}, api.ErrShort}, {append([]byte{255, 255, 255, 255, 0, 0, 0, 0}, make([]byte, 100)...), api.ErrShort}, {append([]byte{128, 0, 0, 0, 127, 255, 255, 255}, make([]byte, 100)...), api.ErrShort}, {append([]byte{0, 0, 0, 93, 255, 255, 255, 162}, make([]byte, 100)...), api.ErrShort},
		{append([]byte{0, 0, 0, 92, 255, 255, 255, 163}, make([]byte, 100)...), api.ErrSum}, {[]byte{0, 0, 0, 0, 255, 255, 255, 255, 1, 2, 3, 4, 5, 6, 7, 8}, api.ErrSum}, {changed(three, 8, 99), api.ErrSum}, {changed(unsound, 8+len(unsound), 1, 2), api.ErrSum}, {good, api.ErrSum},
		{after(nil), api.ErrForm}, {after([]byte{7}), api.ErrForm}, {after(unsound), api.ErrForm}, {after(append(bytes.Clone(three), 0)), api.ErrForm}, {after(two[:len(two)-1]), api.ErrForm}, {after(wrongName), api.ErrForm}, {after(append(bytes.Clone(two), two...)), api.ErrForm}, {after(append([]byte{132, 0}, two[1:]...)), api.ErrForm}, {after([]byte(strings.Repeat("x", 100000))), api.ErrForm},
		{after(one), api.ErrOrder}, {after(three), api.ErrOrder}, {after(encoded(t, example(0))), api.ErrOrder}, {after(encoded(t, example(4000))), api.ErrOrder},
	} {
		open(t, append(bytes.Clone(good), c.b...), c.e, example(1))
		// What follows does not matter, unless it could belong to the frame.
		if c.e != api.ErrShort {
			open(t, append(append(bytes.Clone(good), c.b...), after(two)...), c.e, example(1))
		}
	}
	open(t, append(bytes.Clone(good), after(two)...), api.OK, example(1), example(2))
	// A frame that is cut off is short, whatever else is wrong with it.
	for _, payload := range [][]byte{nil, {7}, unsound, wrongName, one, three} {
		b := after(payload)
		open(t, append(bytes.Clone(good), b[:len(b)-1]...), api.ErrShort, example(1))
	}
	open(t, nil, api.OK)
	open(t, []byte{}, api.OK)
	first, _ := framed(two)
	open(t, first, api.ErrOrder)
}

// P18.3: every prefix of a log, and the log that goes on where the prefix was cut off.
func TestRecovery(t *testing.T) {
	r := rand.New(rand.NewSource(183))
	var l []api.Entry
	var ends []int
	g := store.New()
	for no := 1; no <= 8; no++ {
		l = append(l, randomEntry(r, no))
		g.Append(l[no-1])
		ends = append(ends, len(g.Bytes()))
	}
	b := g.Bytes()
	for cut := range len(b) + 1 {
		n := 0
		for n < len(ends) && ends[n] <= cut {
			n++
		}
		wanted := api.ErrShort
		if cut == 0 || slices.Contains(ends, cut) {
			wanted = api.OK
		}
		h := open(t, b[:cut], wanted, l[:n]...)
		for _, x := range l[n:] {
			if e := h.Append(x); e != api.OK {
				t.Fatalf("Append to the log that was cut off at %d returns %d", cut, e)
			}
		}
		if !bytes.Equal(h.Bytes(), b) || h.Sum() != g.Sum() {
			t.Fatalf("the log that was cut off at %d goes on differently", cut)
		}
	}
}

// P18.4: every change of a single byte.
func TestDamage(t *testing.T) {
	r := rand.New(rand.NewSource(184))
	l := []api.Entry{example(1), randomEntry(r, 2), example(3)}
	var ends []int
	g := store.New()
	for _, x := range l {
		g.Append(x)
		ends = append(ends, len(g.Bytes()))
	}
	b := g.Bytes()
	counts := map[api.Errno]int{}
	for at := range b {
		n := 0
		for ends[n] <= at {
			n++
		}
		for change := 1; change < 256; change++ {
			b[at] ^= byte(change)
			h, used, e := store.Open(b)
			if e == api.OK || h.Len() != n || used != len(h.Bytes()) || n > 0 && used != ends[n-1] || !slices.EqualFunc(h.Entries(), l[:n], entry.Same) {
				t.Fatalf("byte %d changed by %d: %d entries, %d bytes, error %d", at, change, h.Len(), used, e)
			}
			counts[e]++
			b[at] ^= byte(change)
		}
	}
	if counts[api.ErrForm] != 3*8*255 || counts[api.ErrSum] != (len(b)-3*8)*255 {
		t.Errorf("the errors are %v", counts)
	}
}

// Rule 6: neither the arguments nor the results share memory with the log, or with each other.
func TestMemory(t *testing.T) {
	x := example(1)
	g := logOf(t, x)
	if !reflect.DeepEqual(x, example(1)) {
		t.Errorf("Append changed the entry to %v", x)
	}
	clear(x.Lines[0].Tags)
	clear(x.Lines)
	b := g.Bytes()
	h, _, _ := store.Open(b)
	clear(b)
	for _, log := range []*store.Log{g, h} {
		check(t, log, example(1))
		all, kept := log.Entries(), log.Entries()
		clear(all[0].Lines[0].Tags)
		clear(all[0].Lines)
		clear(all)
		if !slices.EqualFunc(kept, []api.Entry{example(1)}, entry.Same) {
			t.Errorf("two results of Entries share memory: %v", kept)
		}
		bytesNow := log.Bytes()
		_ = append(bytesNow, 1, 2, 3)
		clear(bytesNow)
		check(t, log, example(1))
		log.Append(example(2))
		check(t, log, example(1), example(2))
	}
	// The memory behind the bytes that are opened belongs to the caller.
	b = g.Bytes()
	whole := append(bytes.Clone(b), 1, 2, 3, 4, 5, 6, 7, 8, 9)
	h, _, _ = store.Open(whole[:len(b)])
	h.Append(example(3))
	if !bytes.Equal(whole[len(b):], []byte{1, 2, 3, 4, 5, 6, 7, 8, 9}) {
		t.Errorf("Append to an opened log wrote %v behind the bytes", whole[len(b):])
	}
}

// read returns what Open returns, as the chapter describes it: the entries, the number of their bytes, and the error.
func read(b []byte) (l []api.Entry, used int, e api.Errno) {
	var payloads [][]byte
	for {
		rest := b[used:]
		if len(rest) == 0 {
			return l, used, api.OK
		}
		if len(rest) < 8 {
			return l, used, api.ErrShort
		}
		length := binary.BigEndian.Uint32(rest)
		if binary.BigEndian.Uint32(rest[4:]) != ^length {
			return l, used, api.ErrForm
		}
		if uint64(len(rest)) < 16+uint64(length) {
			return l, used, api.ErrShort
		}
		payload := rest[8 : 8+length]
		payloads = append(payloads, payload)
		frames, _ := framed(payloads...)
		if !bytes.Equal(frames, b[:len(frames)]) {
			return l, used, api.ErrSum
		}
		x, n, e := codec.Take(payload)
		if e != api.OK || n != len(payload) {
			return l, used, api.ErrForm
		}
		if x.No != len(l)+1 {
			return l, used, api.ErrOrder
		}
		l, used = append(l, x), len(frames)
	}
}

// P18.2: logs of right and wrong payloads, some of them changed or cut off.
func TestRandomLogs(t *testing.T) {
	r := rand.New(rand.NewSource(182))
	counts := map[api.Errno]int{}
	for range 20000 {
		var payloads [][]byte
		for i := range r.Intn(5) {
			p := encoded(t, randomEntry(r, i+1+r.Intn(12)/11))
			switch r.Intn(12) {
			case 0:
				p[r.Intn(len(p))] = byte(r.Intn(256))
			case 1:
				p = p[:r.Intn(len(p)+1)]
			}
			payloads = append(payloads, p)
		}
		b, _ := framed(payloads...)
		if len(b) > 0 && r.Intn(3) == 0 {
			b[r.Intn(len(b))] = byte(r.Intn(256))
		}
		if r.Intn(3) == 0 {
			b = b[:r.Intn(len(b)+1)]
		}
		if r.Intn(5) == 0 {
			b = append(b, bytes.Repeat([]byte{0, 0, 0, 1, 255, 255, 255, 254}, r.Intn(4))...)
		}
		l, used, e := read(b)
		g, gotUsed, gotE := store.Open(b)
		if !slices.EqualFunc(g.Entries(), l, entry.Same) || gotUsed != used || gotE != e || !bytes.Equal(g.Bytes(), b[:used]) {
			t.Fatalf("Open(%v) = %v, %d, %d, want %v, %d, %d", b, g.Entries(), gotUsed, gotE, l, used, e)
		}
		counts[e]++
	}
	for _, e := range []api.Errno{api.OK, api.ErrShort, api.ErrForm, api.ErrSum, api.ErrOrder} {
		if counts[e] < 500 {
			t.Errorf("Open returned %d only %d times", e, counts[e])
		}
	}
}
