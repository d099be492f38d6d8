package split_test

import (
	"math"
	"math/big"
	"math/rand"
	"slices"
	"testing"

	"accounting/api"
	"accounting/split"
)

const most, least, limit = math.MaxInt, math.MinInt, api.MaxSum

// shares returns the shares of an amount, as the chapter describes them.
func shares(amount int, weights []int) []int {
	size := new(big.Int).Abs(big.NewInt(int64(amount)))
	total := new(big.Int)
	for _, w := range weights {
		total.Add(total, big.NewInt(int64(w)))
	}
	l, rests, left := make([]int, len(weights)), make([]*big.Int, len(weights)), size.Int64()
	for i, w := range weights {
		part, rest := new(big.Int).QuoRem(new(big.Int).Mul(size, big.NewInt(int64(w))), total, new(big.Int))
		l[i], rests[i] = int(part.Int64()), rest
		left -= part.Int64()
	}
	for ; left > 0; left-- {
		best := 0
		for i := range rests {
			if rests[i].Cmp(rests[best]) > 0 {
				best = i
			}
		}
		l[best]++
		rests[best] = big.NewInt(-1)
	}
	for i := range l {
		if amount < 0 {
			l[i] = -l[i]
		}
	}
	return l
}

// randomWeights returns up to 200 weights that are small or close to their limit.
func randomWeights(r *rand.Rand) []int {
	n := 1 + r.Intn([]int{3, 10, 200}[r.Intn(3)])
	limits := []int{2, 5, 1000, limit / n}
	highest := limits[r.Intn(len(limits))]
	l := make([]int, n)
	for i := range l {
		l[i] = r.Intn(highest + 1)
	}
	l[r.Intn(n)] = highest
	return l
}

// P8.1
func TestShares(t *testing.T) {
	r := rand.New(rand.NewSource(8))
	for range 20000 {
		weights := randomWeights(r)
		amount := []int{r.Intn(10), r.Intn(1000), r.Intn(limit), limit - r.Intn(3)}[r.Intn(4)] * (1 - 2*r.Intn(2))
		want := shares(amount, weights)
		l, e := split.Shares(amount, weights...)
		if !slices.Equal(l, want) || e != api.OK {
			t.Fatalf("Shares(%d, %v) = %v, %d, want %v", amount, weights, l, e, want)
		}
		sum := 0
		for _, part := range l {
			sum += part
		}
		if sum != amount {
			t.Fatalf("Shares(%d, %v) = %v, whose sum is %d", amount, weights, l, sum)
		}
	}
}

// P8.1
func TestShareExamples(t *testing.T) {
	for _, c := range []struct {
		amount        int
		weights, want []int
	}{
		{100, []int{1, 1, 1}, []int{34, 33, 33}}, {-100, []int{1, 1, 1}, []int{-34, -33, -33}}, {-7, []int{3, 0, 1}, []int{-5, 0, -2}}, {10, []int{3, 3, 1}, []int{4, 4, 2}},
		{0, []int{5}, []int{0}}, {0, []int{0, 1, 0}, []int{0, 0, 0}}, {1, []int{0, 1}, []int{0, 1}}, {1, []int{1, 1}, []int{1, 0}}, {-1, []int{1, 1}, []int{-1, 0}}, {2, []int{1, 1, 1}, []int{1, 1, 0}},
		{limit, []int{limit}, []int{limit}}, {-limit, []int{limit}, []int{-limit}}, {limit, []int{1}, []int{limit}}, {limit, []int{limit - 1, 1}, []int{limit - 1, 1}}, {limit - 1, []int{1, limit - 1}, []int{1, limit - 2}},
		{1, []int{1, limit - 1}, []int{0, 1}}, {5, []int{0, 0, 7, 0}, []int{0, 0, 5, 0}},
	} {
		if l, e := split.Shares(c.amount, c.weights...); !slices.Equal(l, c.want) || e != api.OK {
			t.Errorf("Shares(%d, %v) = %v, %d, want %v", c.amount, c.weights, l, e, c.want)
		}
	}
}

// P8.1
func TestSharesOfManyEqualRemainders(t *testing.T) {
	weights := make([]int, 200)
	for i := range weights {
		weights[i] = 3
	}
	for _, amount := range []int{1, 57, 199, 200, 201, -1, -57, -199} {
		if l, e := split.Shares(amount, weights...); !slices.Equal(l, shares(amount, weights)) || e != api.OK {
			t.Errorf("Shares(%d, 200 times 3) = %v, %d", amount, l, e)
		}
	}
}

// ones returns n weights 1.
func ones(n int) []int {
	l := make([]int, n)
	for i := range l {
		l[i] = 1
	}
	return l
}

// P8.1
func TestShareErrors(t *testing.T) {
	for _, c := range []struct {
		amount  int
		weights []int
		e       api.Errno
	}{
		{0, ones(201), api.ErrMany}, {limit + 1, ones(201), api.ErrMany}, {1, make([]int, 201), api.ErrMany}, {1, slices.Repeat([]int{-1}, 201), api.ErrMany}, {1, slices.Repeat([]int{most}, 201), api.ErrMany}, {least, make([]int, 5000), api.ErrMany},
		{limit + 1, []int{1}, api.ErrOver}, {-limit - 1, []int{1}, api.ErrOver}, {most, []int{1}, api.ErrOver}, {least, []int{1}, api.ErrOver}, {limit + 1, []int{-1}, api.ErrOver}, {limit + 1, nil, api.ErrOver}, {least, []int{0, 0}, api.ErrOver},
		{1, []int{-1}, api.ErrArg}, {1, []int{5, -1, 3}, api.ErrArg}, {1, []int{limit + 1, -1}, api.ErrArg}, {1, []int{most, most, least}, api.ErrArg}, {1, []int{least}, api.ErrArg}, {0, []int{0, -1}, api.ErrArg}, {1, []int{2, -2}, api.ErrArg},
		{1, []int{limit + 1}, api.ErrOver}, {1, []int{limit, 1}, api.ErrOver}, {1, []int{most}, api.ErrOver}, {1, []int{most, most}, api.ErrOver}, {1, []int{most, most, 2}, api.ErrOver}, {1, slices.Repeat([]int{1 << 62}, 4), api.ErrOver}, {0, slices.Repeat([]int{1 << 62}, 64), api.ErrOver}, {1, slices.Repeat([]int{limit/200 + 1}, 200), api.ErrOver},
		{1, nil, api.ErrArg}, {0, nil, api.ErrArg}, {1, []int{0}, api.ErrArg}, {1, []int{0, 0}, api.ErrArg}, {0, make([]int, 200), api.ErrArg},
	} {
		if l, e := split.Shares(c.amount, c.weights...); len(l) != 0 || e != c.e {
			t.Errorf("Shares(%d, %v) = %v, %d, want error %d", c.amount, c.weights, l, e, c.e)
		}
	}
}

// P8.1
func TestSharesLeaveTheWeights(t *testing.T) {
	all := []int{3, 1, 2, 9, 9, 9}
	kept := slices.Clone(all)
	weights := all[:3]
	l, e := split.Shares(-11, weights...)
	if e != api.OK || !slices.Equal(l, []int{-5, -2, -4}) {
		t.Errorf("Shares(-11, 3, 1, 2) = %v, %d", l, e)
	}
	for i := range l {
		l[i] = 77
	}
	_ = append(l, 78)
	if !slices.Equal(all, kept) {
		t.Errorf("the weights %v became %v", kept, all)
	}
}

// P8.2
func TestEven(t *testing.T) {
	amounts := []int{0, 1, 2, 3, 5, 99, 100, 101, 199, 200, 201, limit, limit - 1, limit - 199}
	for n := 1; n <= 200; n++ {
		for _, size := range amounts {
			for _, amount := range []int{size, -size} {
				l, e := split.Even(amount, n)
				if e != api.OK || len(l) != n {
					t.Fatalf("Even(%d, %d) = %v, %d", amount, n, l, e)
				}
				for i, part := range l {
					want := size / n
					if i < size%n {
						want++
					}
					if amount < 0 {
						want = -want
					}
					if part != want {
						t.Fatalf("Even(%d, %d) = %v, want %d at %d", amount, n, l, want, i)
					}
				}
			}
		}
	}
}

// P8.2
func TestEvenErrors(t *testing.T) {
	for _, amount := range []int{0, 1, limit, limit + 1, least} {
		for _, n := range []int{0, -1, -200, least} {
			if l, e := split.Even(amount, n); len(l) != 0 || e != api.ErrArg {
				t.Errorf("Even(%d, %d) = %v, %d, want ErrArg", amount, n, l, e)
			}
		}
		for _, n := range []int{201, 1000, most} {
			if l, e := split.Even(amount, n); len(l) != 0 || e != api.ErrMany {
				t.Errorf("Even(%d, %d) = %v, %d, want ErrMany", amount, n, l, e)
			}
		}
	}
	for _, amount := range []int{limit + 1, -limit - 1, most, least} {
		for _, n := range []int{1, 7, 200} {
			if l, e := split.Even(amount, n); len(l) != 0 || e != api.ErrOver {
				t.Errorf("Even(%d, %d) = %v, %d, want ErrOver", amount, n, l, e)
			}
		}
	}
	if l, e := split.Even(5, 3); !slices.Equal(l, []int{2, 2, 1}) || e != api.OK {
		t.Errorf("Even(5, 3) = %v, %d", l, e)
	}
}
