package muldiv_test

import (
	"math"
	"math/big"
	"math/rand"
	"testing"

	"accounting/api"
	"accounting/muldiv"
)

const most, least = math.MaxInt, math.MinInt

// edges are the integers at which signs, words and halves change.
func edges() []int {
	l := []int{0, 1, -1, 2, -2, 3, -3, 4, 5, -5, 6, 7, -7, 10, 1000000, -3000000, 1000000000000}
	for _, shift := range []int{31, 32, 62} {
		p := 1 << shift
		l = append(l, p-1, p, p+1, -p-1, -p, -p+1)
	}
	return append(l, most, most-1, least, least+1, least+2, most/2, most/3, least/3)
}

func large(n int) *big.Int { return big.NewInt(int64(n)) }

// rounded returns the quotient x / y as the definitions of the rounding modes say it.
func rounded(x, y *big.Int, mode int) *big.Int {
	floor, rest := new(big.Int), new(big.Int)
	floor.DivMod(new(big.Int).Mul(x, large(y.Sign())), new(big.Int).Abs(y), rest)
	if rest.Sign() == 0 {
		return floor
	}
	ceiling := new(big.Int).Add(floor, large(1))
	toZero, fromZero := floor, ceiling
	if floor.Sign() < 0 {
		toZero, fromZero = ceiling, floor
	}
	half := new(big.Int).Lsh(rest, 1).CmpAbs(y)
	switch {
	case mode == api.Floor:
		return floor
	case mode == api.Down:
		return toZero
	case mode == api.Up:
		return fromZero
	case half < 0:
		return floor
	case half > 0:
		return ceiling
	case mode == api.Half:
		return fromZero
	case floor.Bit(0) == 0:
		return floor
	}
	return ceiling
}

// want returns what MulDiv must return for a rounding mode and a divisor other than 0.
func want(a, b, c, mode int) (int, api.Errno) {
	q := rounded(new(big.Int).Mul(large(a), large(b)), large(c), mode)
	if !q.IsInt64() {
		return 0, api.ErrOver
	}
	return int(q.Int64()), api.OK
}

func checkMulDiv(t *testing.T, a, b, c, mode int) {
	t.Helper()
	n, e := muldiv.MulDiv(a, b, c, mode)
	if wantN, wantE := want(a, b, c, mode); n != wantN || e != wantE {
		t.Errorf("MulDiv(%d, %d, %d, %d) = %d, %d, want %d, %d", a, b, c, mode, n, e, wantN, wantE)
	}
}

// P2.1
func TestMulDivAtEdges(t *testing.T) {
	for mode := api.Down; mode <= api.Floor; mode++ {
		for _, a := range edges() {
			for _, b := range edges() {
				for _, c := range edges() {
					if c != 0 {
						checkMulDiv(t, a, b, c, mode)
					}
				}
			}
		}
	}
}

// P2.1
func TestMulDivOfManyNumbers(t *testing.T) {
	r := rand.New(rand.NewSource(2))
	any := func() int { return int(r.Uint64()) >> r.Intn(64) }
	for range 200000 {
		a, b, c := any(), any(), any()
		if c != 0 {
			checkMulDiv(t, a, b, c, api.Down+r.Intn(5))
		}
	}
}

// P2.1
func TestSmallQuotients(t *testing.T) {
	for mode := api.Down; mode <= api.Floor; mode++ {
		for a := -30; a <= 30; a++ {
			for b := -12; b <= 12; b++ {
				if b == 0 {
					continue
				}
				n, e := muldiv.Div(a, b, mode)
				if wantN, wantE := want(a, 1, b, mode); n != wantN || e != wantE {
					t.Errorf("Div(%d, %d, %d) = %d, %d, want %d, %d", a, b, mode, n, e, wantN, wantE)
				}
			}
		}
	}
}

// P2.1
func TestRoundingModes(t *testing.T) {
	for _, c := range []struct{ a, b, down, up, half, even, floor int }{
		{5, 2, 2, 3, 3, 2, 2}, {7, 2, 3, 4, 4, 4, 3}, {-5, 2, -2, -3, -3, -2, -3}, {-7, 2, -3, -4, -4, -4, -4}, {7, -2, -3, -4, -4, -4, -4},
		{-7, -2, 3, 4, 4, 4, 3}, {4, 3, 1, 2, 1, 1, 1}, {5, 3, 1, 2, 2, 2, 1}, {-4, 3, -1, -2, -1, -1, -2}, {-5, 3, -1, -2, -2, -2, -2},
		{1, 2, 0, 1, 1, 0, 0}, {-1, 2, 0, -1, -1, 0, -1}, {6, 3, 2, 2, 2, 2, 2}, {-6, 3, -2, -2, -2, -2, -2}, {0, -5, 0, 0, 0, 0, 0},
	} {
		for mode, n := range map[int]int{api.Down: c.down, api.Up: c.up, api.Half: c.half, api.Even: c.even, api.Floor: c.floor} {
			if got, e := muldiv.Div(c.a, c.b, mode); got != n || e != api.OK {
				t.Errorf("Div(%d, %d, %d) = %d, %d, want %d", c.a, c.b, mode, got, e, n)
			}
		}
	}
}

// P2.1
func TestRoundingAtTheEndsOfTheRange(t *testing.T) {
	for _, c := range []struct {
		a, b int // a · b / 2 is half-way between an int and the next integer
		n    map[int]int
	}{
		{4294967295, 4294967297, map[int]int{api.Down: most, api.Floor: most}},
		{-4294967295, 4294967297, map[int]int{api.Down: -most, api.Up: least, api.Half: least, api.Even: least, api.Floor: least}},
		{-274177, 67280421310721, map[int]int{api.Down: least, api.Even: least}},
		{274177, 67280421310721, nil},
	} {
		for mode := api.Down; mode <= api.Floor; mode++ {
			n, e := muldiv.MulDiv(c.a, c.b, 2, mode)
			wantE := api.OK
			if _, ok := c.n[mode]; !ok {
				wantE = api.ErrOver
			}
			if n != c.n[mode] || e != wantE {
				t.Errorf("MulDiv(%d, %d, 2, %d) = %d, %d, want %d, %d", c.a, c.b, mode, n, e, c.n[mode], wantE)
			}
		}
	}
}

// P2.1
func TestQuotientErrors(t *testing.T) {
	for _, c := range []struct {
		a, b, c, mode int
		e             api.Errno
	}{
		{1, 1, 0, 9, api.ErrKind}, {1, 1, 0, 0, api.ErrKind}, {1, 1, 1, 0, api.ErrKind}, {1, 1, 1, 6, api.ErrKind}, {1, 1, 1, -1, api.ErrKind},
		{most, most, 1, least, api.ErrKind}, {most, most, 1, most, api.ErrKind},
		{1, 1, 0, api.Down, api.ErrArg}, {0, 0, 0, api.Floor, api.ErrArg}, {most, most, 0, api.Half, api.ErrArg},
		{4611686018427387904, 2, 1, api.Down, api.ErrOver}, {least, 1, -1, api.Down, api.ErrOver}, {least, least, 1, api.Even, api.ErrOver},
		{least, least, -1, api.Floor, api.ErrOver}, {most, 3, 2, api.Down, api.ErrOver}, {1 << 32, 1 << 32, 1, api.Down, api.ErrOver},
	} {
		if n, e := muldiv.MulDiv(c.a, c.b, c.c, c.mode); n != 0 || e != c.e {
			t.Errorf("MulDiv(%d, %d, %d, %d) = %d, %d, want error %d", c.a, c.b, c.c, c.mode, n, e, c.e)
		}
	}
	for _, c := range []struct {
		a, b, mode int
		e          api.Errno
	}{
		{1, 0, 9, api.ErrKind}, {1, 1, 0, api.ErrKind}, {1, 1, 6, api.ErrKind}, {1, 0, api.Down, api.ErrArg}, {0, 0, api.Even, api.ErrArg}, {least, -1, api.Up, api.ErrOver},
	} {
		if n, e := muldiv.Div(c.a, c.b, c.mode); n != 0 || e != c.e {
			t.Errorf("Div(%d, %d, %d) = %d, %d, want error %d", c.a, c.b, c.mode, n, e, c.e)
		}
	}
}

// P2.1
func TestQuotientExamples(t *testing.T) {
	if n, e := muldiv.MulDiv(1000000000000, 1000000000000, -3000000, api.Up); n != -333333333333333334 || e != api.OK {
		t.Error("MulDiv", n, e)
	}
	if n, e := muldiv.MulDiv(most, most, most, api.Half); n != most || e != api.OK {
		t.Error("MulDiv", n, e)
	}
	if n, e := muldiv.MulDiv(least, least, least, api.Even); n != least || e != api.OK {
		t.Error("MulDiv", n, e)
	}
}

// P2.2
func TestMod(t *testing.T) {
	if r, e := muldiv.Mod(-7, 5, 3); r != 1 || e != api.OK {
		t.Errorf("Mod(-7, 5, 3) = %d, %d", r, e)
	}
	for _, a := range edges() {
		for _, b := range edges() {
			for _, c := range edges() {
				r, e := muldiv.Mod(a, b, c)
				if c == 0 {
					if r != 0 || e != api.ErrArg {
						t.Errorf("Mod(%d, %d, 0) = %d, %d, want ErrArg", a, b, r, e)
					}
					continue
				}
				exact := new(big.Int).Mul(large(a), large(b))
				exact.Mod(exact, large(c)) // Euclidean: never negative
				if e != api.OK || exact.Cmp(large(r)) != 0 {
					t.Errorf("Mod(%d, %d, %d) = %d, %d, want %d", a, b, c, r, e, exact)
				}
			}
		}
	}
}

// P2.3
func TestCmp(t *testing.T) {
	if muldiv.Cmp(2, 3, 7, 1) != -1 || muldiv.Cmp(7, 1, 2, 3) != 1 || muldiv.Cmp(-2, 3, -3, 2) != 0 {
		t.Error("Cmp of small numbers")
	}
	var pairs [][2]int
	for _, a := range edges() {
		for _, b := range edges() {
			pairs = append(pairs, [2]int{a, b})
		}
	}
	for i, x := range pairs {
		// Every pair is compared with itself and with a part of the others.
		for j := i % 7; j < len(pairs); j += 7 {
			y := pairs[j]
			exact := new(big.Int).Mul(large(x[0]), large(x[1])).Cmp(new(big.Int).Mul(large(y[0]), large(y[1])))
			if sign := muldiv.Cmp(x[0], x[1], y[0], y[1]); sign != exact {
				t.Fatalf("Cmp(%d, %d, %d, %d) = %d, want %d", x[0], x[1], y[0], y[1], sign, exact)
			}
		}
	}
}
