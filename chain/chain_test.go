package chain_test

import (
	"bytes"
	"encoding/binary"
	"fmt"
	"hash/fnv"
	"math"
	"math/big"
	"math/rand"
	"regexp"
	"slices"
	"strconv"
	"strings"
	"testing"

	"accounting/api"
	"accounting/chain"
)

// sums are checksums at the edges of their range and of their bytes.
var sums = []uint64{0, 1, 15, 16, 255, 256, 258, 1 << 32, 1<<32 - 1, 1 << 63, math.MaxUint64, 0x0123456789abcdef, 0xfedcba9876543210, chain.Start}

// randomRecords returns a few records, some of them empty.
func randomRecords(r *rand.Rand, n int) [][]byte {
	l := make([][]byte, n)
	for i := range l {
		l[i] = make([]byte, r.Intn(7)*r.Intn(50))
		r.Read(l[i])
	}
	return l
}

// copied returns records that share no memory with l.
func copied(l [][]byte) [][]byte {
	c := make([][]byte, len(l))
	for i := range l {
		c[i] = slices.Clone(l[i])
	}
	return c
}

// next returns the checksum after a record, as the chapter defines it.
func next(sum uint64, b []byte) uint64 {
	n := len(b)
	size := []byte{byte(n >> 24), byte(n >> 16), byte(n >> 8), byte(n)}
	h := new(big.Int).SetUint64(sum)
	modulus := new(big.Int).Lsh(big.NewInt(1), 64)
	for _, c := range slices.Concat(b, size) {
		h.Xor(h, big.NewInt(int64(c)))
		h.Mod(h.Mul(h, big.NewInt(1099511628211)), modulus)
	}
	return h.Uint64()
}

// P14.1
func TestNext(t *testing.T) {
	if chain.Start != 14695981039346656037 {
		t.Errorf("Start = %d", chain.Start)
	}
	if n := chain.Next(0, []byte{0}); n != 1099511628211 {
		t.Errorf("Next(0, 0) = %d", n)
	}
	if n := chain.Next(0, nil); n != 0 {
		t.Errorf("Next(0, nothing) = %d", n)
	}
	r := rand.New(rand.NewSource(141))
	l := append(randomRecords(r, 100), nil, []byte{0}, []byte{0, 0}, make([]byte, 255), make([]byte, 256), make([]byte, 65535), make([]byte, 65536), bytes.Repeat([]byte{255}, 70000))
	for _, b := range l {
		for _, sum := range append([]uint64{r.Uint64()}, sums...) {
			kept := slices.Clone(b)
			if got, want := chain.Next(sum, b), next(sum, b); got != want {
				t.Fatalf("Next(%d, %d bytes) = %d, want %d", sum, len(b), got, want)
			}
			if !bytes.Equal(b, kept) {
				t.Fatalf("Next changed its argument")
			}
		}
	}
}

// P14.1: the length is part of the checksum, with all its four bytes.
func TestNextLength(t *testing.T) {
	b := make([]byte, 1<<24+1)
	for _, n := range []int{0, 1, 255, 256, 257, 1 << 16, 1<<16 + 1, 1 << 24, 1<<24 + 1} {
		// Bytes of 0 leave the checksum 0 as it is, so that only the length matters.
		var size [4]byte
		binary.BigEndian.PutUint32(size[:], uint32(n))
		want := uint64(0)
		for _, c := range size {
			want = (want ^ uint64(c)) * 1099511628211
		}
		if got := chain.Next(0, b[:n]); got != want {
			t.Errorf("Next(0, %d zeros) = %d, want %d", n, got, want)
		}
	}
}

// P14.1: a chain is a hash of the library over the records and their lengths.
func TestAll(t *testing.T) {
	if l := chain.All(); len(l) != 0 {
		t.Errorf("All() = %v", l)
	}
	r := rand.New(rand.NewSource(142))
	for n := range 60 {
		l := randomRecords(r, n)
		kept := copied(l)
		hash := fnv.New64a()
		got := chain.All(l...)
		if len(got) != n {
			t.Fatalf("All of %d records has %d checksums", n, len(got))
		}
		for i, b := range l {
			hash.Write(b)
			binary.Write(hash, binary.BigEndian, uint32(len(b)))
			if got[i] != hash.Sum64() {
				t.Fatalf("checksum %d of %v is %d, want %d", i, l, got[i], hash.Sum64())
			}
			if !bytes.Equal(b, kept[i]) {
				t.Fatalf("All changed record %d", i)
			}
		}
	}
}

// P14.1
func TestCheck(t *testing.T) {
	l := [][]byte{[]byte("a"), nil, []byte("b")}
	right := chain.All(l...)
	for _, c := range []struct {
		name    string
		records [][]byte
		sums    []uint64
		at      int
	}{
		{"nothing", nil, nil, -1}, {"empty slices", [][]byte{}, []uint64{}, -1}, {"two checksums and no records", nil, []uint64{1, 2}, 0}, {"the start", nil, []uint64{chain.Start}, 0},
		{"all", l, right, -1}, {"no checksums", l, nil, 0}, {"one checksum", l, right[:1], 1}, {"two checksums", l, right[:2], 2},
		{"no records", nil, right, 0}, {"one record", l[:1], right, 1}, {"two records", l[:2], right, 2}, {"one of both", l[:1], right[:1], -1},
		{"another record", [][]byte{[]byte("c"), nil, []byte("b")}, right, 0}, {"another record and fewer checksums", [][]byte{[]byte("c"), nil, []byte("b")}, right[:1], 0},
		{"records in another order", [][]byte{[]byte("a"), []byte("b"), nil}, right, 1}, {"checksums in another order", l, []uint64{right[0], right[2], right[1]}, 1}, {"a wrong last checksum", l, []uint64{right[0], right[1], right[2] + 1}, 2},
		{"two wrong checksums", l, []uint64{right[0], 7, 8}, 1}, {"a wrong checksum among too many", l, append(slices.Clone(right), 9)[:4], 3}, {"a wrong one before superfluous ones", l[:2], []uint64{right[0], 7, right[2]}, 1}, {"the start in front", l, append([]uint64{chain.Start}, right...), 0},
		// The checksum after a record depends on the earlier records, and not on the earlier checksums.
		{"a chain with another beginning", l, []uint64{5, chain.Next(5, nil), right[2]}, 0}, {"a chain that continues a wrong checksum", l, []uint64{right[0], 5, chain.Next(5, l[2])}, 1},
	} {
		records, given := copied(c.records), slices.Clone(c.sums)
		if at := chain.Check(c.records, c.sums); at != c.at {
			t.Errorf("%s: Check = %d, want %d", c.name, at, c.at)
		}
		if !slices.Equal(given, c.sums) || !slices.EqualFunc(records, c.records, bytes.Equal) {
			t.Errorf("%s: Check changed its arguments", c.name)
		}
	}
}

// P14.1
func TestCheckRandomly(t *testing.T) {
	r := rand.New(rand.NewSource(143))
	for range 3000 {
		records := randomRecords(r, r.Intn(6))
		given := chain.All(records...)
		for range r.Intn(3) {
			if len(given) > 0 {
				given[r.Intn(len(given))] ^= 1 << r.Intn(64)
			}
		}
		given = append(given, r.Uint64(), r.Uint64())[:r.Intn(len(given)+3)]
		want := -1
		if len(given) > len(records) {
			want = len(records)
		}
		sum := chain.Start
		for i := range records {
			sum = next(sum, records[i])
			if i >= len(given) || given[i] != sum {
				want = i
				break
			}
		}
		if at := chain.Check(records, given); at != want {
			t.Fatalf("Check(%v, %v) = %d, want %d", records, given, at, want)
		}
	}
}

// P14.2
func TestBytesAndSum(t *testing.T) {
	r := rand.New(rand.NewSource(144))
	for _, sum := range append([]uint64{r.Uint64(), r.Uint64(), r.Uint64()}, sums...) {
		b := chain.Bytes(sum)
		want := binary.BigEndian.AppendUint64(nil, sum)
		if !bytes.Equal(b, want) {
			t.Errorf("Bytes(%d) = %v, want %v", sum, b, want)
		}
		if got, e := chain.Sum(b); got != sum || e != api.OK {
			t.Errorf("Sum(%v) = %d, %d, want %d", b, got, e, sum)
		}
		if !bytes.Equal(b, want) {
			t.Errorf("Sum changed its argument to %v", b)
		}
		again := chain.Bytes(sum)
		clear(b)
		if !bytes.Equal(again, want) {
			t.Error("two results of Bytes share memory")
		}
	}
	if sum, e := chain.Sum([]byte{0, 0, 0, 0, 0, 0, 1, 2}); sum != 258 || e != api.OK {
		t.Errorf("Sum of the example = %d, %d", sum, e)
	}
	for n := range 20 {
		want := api.OK
		if n < 8 {
			want = api.ErrShort
		}
		if n > 8 {
			want = api.ErrForm
		}
		sum, e := chain.Sum(bytes.Repeat([]byte{1}, n))
		if e != want || (sum != 0) != (e == api.OK) {
			t.Errorf("Sum of %d bytes = %d, %d, want error %d", n, sum, e, want)
		}
	}
}

// P14.2
func TestText(t *testing.T) {
	r := rand.New(rand.NewSource(145))
	for _, sum := range append([]uint64{r.Uint64(), r.Uint64(), r.Uint64() >> 20}, sums...) {
		s := chain.Text(sum)
		if want := fmt.Sprintf("%016x", sum); s != want {
			t.Errorf("Text(%d) = %q, want %q", sum, s, want)
		}
		if got, e := chain.Parse(s); got != sum || e != api.OK {
			t.Errorf("Parse(%q) = %d, %d, want %d", s, got, e, sum)
		}
	}
}

// P14.2
func TestParse(t *testing.T) {
	notation := regexp.MustCompile(`^[0-9a-f]{16}\z`)
	l := []string{"", "ff", "00000000000000ff", "00000000000000FF", "0123456789abcdef", "0123456789ABCDEF", "ffffffffffffffff", "000000000000000g", "g000000000000000", "00000000 0000000", "-000000000000001", "+000000000000001", "0x00000000000001", "000000000000001", "00000000000000001", "000000000000000\n", "0000000000000000\n", "00000000000000_1", "000000000000000ä", "00000000000000ä", "\xff00000000000000f", strings.Repeat("0", 32), strings.Repeat("0", 1000)}
	for c := range 256 {
		l = append(l, string([]byte{byte(c)})+"123456789abcdef", "123456789abcdef"+string([]byte{byte(c)}), "12345678"+string([]byte{byte(c)})+"9abcdef")
	}
	for _, s := range l {
		want, wantE := uint64(0), api.ErrForm
		if notation.MatchString(s) {
			want, _ = strconv.ParseUint(s, 16, 64)
			wantE = api.OK
		}
		if sum, e := chain.Parse(s); sum != want || e != wantE {
			t.Errorf("Parse(%q) = %d, %d, want %d, %d", s, sum, e, want, wantE)
		}
	}
}

// P14.3
func TestDetection(t *testing.T) {
	r := rand.New(rand.NewSource(146))
	for range 300 {
		l := randomRecords(r, 1+r.Intn(6))
		at := r.Intn(len(l))
		l[at] = append(l[at], byte(r.Intn(256)))
		before := chain.All(l...)
		i := r.Intn(len(l[at]))
		for change := 1; change < 256; change++ {
			changed := copied(l)
			changed[at][i] ^= byte(change)
			after := chain.All(changed...)
			for k := range l {
				if (before[k] == after[k]) != (k < at) {
					t.Fatalf("byte %d of record %d of %v changed by %d: checksum %d is %d and %d", i, at, l, change, k, before[k], after[k])
				}
			}
			if found := chain.Check(changed, before); found != at {
				t.Fatalf("Check finds %d, want %d", found, at)
			}
		}
	}
}

// P14.1: where a record ends matters, too.
func TestBoundaries(t *testing.T) {
	seen := map[uint64]string{}
	for _, l := range [][]string{{"", "ab"}, {"a", "b"}, {"ab", ""}, {"ab"}, {"", "", "ab"}, {"", "a", "b"}, {"a", "b", ""}, {"ba"}} {
		var records [][]byte
		for _, s := range l {
			records = append(records, []byte(s))
		}
		all := chain.All(records...)
		sum := all[len(all)-1]
		if other, twice := seen[sum]; twice {
			t.Errorf("%q and %s have the same checksum", l, other)
		}
		seen[sum] = fmt.Sprintf("%q", l)
	}
}
