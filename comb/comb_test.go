package comb_test

import (
	"math"
	"math/big"
	"math/rand/v2"
	"slices"
	"testing"

	"lottery/api"
	"lottery/comb"
	"lottery/nat"
)

const most = api.MaxOf

// greatest is C(74, 23), the greatest binomial coefficient of a number up to 80 that is an int.
const greatest = 8249183865278257824

func wide(n int) *big.Int {
	return big.NewInt(int64(n))
}

// binomial returns C(n, k) by the definition, for n from 0 on and any k.
func binomial(n, k int) *big.Int {
	if k < 0 || k > n {
		return new(big.Int)
	}
	return new(big.Int).Binomial(int64(n), int64(k))
}

func isInt(n *big.Int) bool {
	return n.IsInt64()
}

// same tells whether a is the valid natural number n.
func same(a api.Nat, n *big.Int) bool {
	return nat.Valid(a) && nat.Format(a) == n.String()
}

// odd are ints that are far from all numbers of elements.
func odd() []int {
	return []int{math.MinInt, math.MinInt + 1, math.MinInt + most, -1 << 32, -1000, 1000, 1 << 32, 1<<32 + 6, 1 << 62, math.MaxInt - most, math.MaxInt - 1, math.MaxInt}
}

// badSizes are ints that are not from 0 to 80.
func badSizes() []int {
	return append(odd(), -81, -80, -2, -1, 81, 82, 128, 256)
}

// lengths are all ints near the numbers from 0 to n, and some that are far from them.
func lengths(n int) []int {
	l := odd()
	for k := -n - 2; k <= n+5; k++ {
		l = append(l, k)
	}
	return l
}

// ascending returns count numbers from first on.
func ascending(first, count int) []int {
	l := make([]int, count)
	for i := range l {
		l[i] = first + i
	}
	return l
}

// combinations are those of n with length k, in order: all subsets, sorted.
func combinations(n, k int) [][]int {
	all := [][]int{}
	for set := range 1 << n {
		l := []int{}
		for i := range n {
			if set>>i&1 == 1 {
				l = append(l, i+1)
			}
		}
		if len(l) == k {
			all = append(all, l)
		}
	}
	slices.SortFunc(all, slices.Compare[[]int])
	return all
}

// rankOf returns the rank of a combination by counting the smaller ones: by the first index at which they are smaller, and by what they have there.
func rankOf(l []int, n int) *big.Int {
	rank, before := new(big.Int), 0
	for i, element := range l {
		for x := before + 1; x < element; x++ {
			rank.Add(rank, binomial(n-x, len(l)-i-1))
		}
		before = element
	}
	return rank
}

// anyCombination returns a combination of n with length k.
func anyCombination(r *rand.Rand, n, k int) []int {
	l := r.Perm(n)[:k]
	for i := range l {
		l[i]++
	}
	slices.Sort(l)
	return l
}

// others are lists that are not combinations of n, which is from 1 to 80, with the errors that Rank has to return.
func others(n int) []struct {
	l []int
	e api.Errno
} {
	return []struct {
		l []int
		e api.Errno
	}{
		{[]int{0}, api.ErrRange},
		{[]int{-1}, api.ErrRange},
		{[]int{n + 1}, api.ErrRange},
		{[]int{math.MinInt}, api.ErrRange},
		{[]int{math.MaxInt}, api.ErrRange},
		{[]int{1, 0}, api.ErrRange},
		{[]int{1, -5}, api.ErrRange},
		{[]int{1, n + 1}, api.ErrRange},
		{[]int{n, n + 1}, api.ErrRange},
		{[]int{n + 1, 1}, api.ErrRange},
		{[]int{n + 1, n + 1}, api.ErrRange},
		{[]int{0, 0}, api.ErrRange},
		{[]int{0, 1}, api.ErrRange},
		{[]int{n, math.MaxInt}, api.ErrRange},
		{[]int{n, math.MinInt}, api.ErrRange},
		{[]int{1, 1}, api.ErrSyntax},
		{[]int{n, n}, api.ErrSyntax},
		{[]int{1, 1, n + 1}, api.ErrSyntax},
		{[]int{n, 1, n + 1}, api.ErrSyntax},
		{[]int{n, n, 0}, api.ErrSyntax},
		{[]int{1, n + 1, 1}, api.ErrRange},
		{[]int{1, 0, 0}, api.ErrRange},
		{append(ascending(1, n), n), api.ErrSyntax},
		{append(ascending(1, n), 1), api.ErrSyntax},
		{append(ascending(1, n), n+1), api.ErrRange},
		{ascending(0, n), api.ErrRange},
		{ascending(2, n), api.ErrRange},
		{slices.Repeat([]int{n}, 1000), api.ErrSyntax},
		{ascending(1, 1000), api.ErrRange},
		{make([]int, 1000), api.ErrRange},
	}
}

// P5.1
func TestCountExamples(t *testing.T) {
	for _, c := range []struct {
		n, k, want int
		e          api.Errno
	}{
		{49, 6, 13983816, api.OK},
		{69, 5, 11238513, api.OK},
		{0, 0, 1, api.OK},
		{0, 1, 0, api.OK},
		{0, -1, 0, api.OK},
		{1, 0, 1, api.OK},
		{1, 1, 1, api.OK},
		{5, 0, 1, api.OK},
		{5, 2, 10, api.OK},
		{5, 3, 10, api.OK},
		{5, 5, 1, api.OK},
		{5, 6, 0, api.OK},
		{5, 7, 0, api.OK},
		{5, -1, 0, api.OK},
		{80, 0, 1, api.OK},
		{80, 1, 80, api.OK},
		{80, 79, 80, api.OK},
		{80, 80, 1, api.OK},
		{80, 81, 0, api.OK},
		{80, -1, 0, api.OK},
		{66, 33, 7219428434016265740, api.OK},
		{67, 29, 7886597962249166160, api.OK},
		{67, 38, 7886597962249166160, api.OK},
		{67, 30, 0, api.ErrOverflow},
		{67, 33, 0, api.ErrOverflow},
		{67, 37, 0, api.ErrOverflow},
		{74, 23, greatest, api.OK},
		{74, 51, greatest, api.OK},
		{74, 24, 0, api.ErrOverflow},
		{74, 50, 0, api.ErrOverflow},
		{71, 25, 0, api.ErrOverflow},
		{71, 46, 0, api.ErrOverflow},
		{80, 20, 3535316142212174320, api.OK},
		{80, 60, 3535316142212174320, api.OK},
		{80, 21, 0, api.ErrOverflow},
		{80, 40, 0, api.ErrOverflow},
		{80, 59, 0, api.ErrOverflow},
		{81, 1, 0, api.ErrRange},
		{81, 40, 0, api.ErrRange},
		{81, 82, 0, api.ErrRange},
		{-1, 0, 0, api.ErrRange},
		{-1, -1, 0, api.ErrRange},
	} {
		if got, e := comb.Count(c.n, c.k); got != c.want || e != c.e {
			t.Errorf("Count(%d, %d): %d, %v, not %d, %v", c.n, c.k, got, e, c.want, c.e)
		}
	}
}

// P5.1
func TestChooseExamples(t *testing.T) {
	for _, c := range []struct {
		n, k int
		want string
	}{
		{49, 6, "13983816"},
		{0, 0, "1"},
		{0, 1, "0"},
		{5, 7, "0"},
		{5, -1, "0"},
		{80, 0, "1"},
		{80, 80, "1"},
		{80, 81, "0"},
		{74, 23, "8249183865278257824"},
		{71, 25, "9964327949818248552"},
		{80, 39, "104885081691059684352800"},
		{80, 40, "107507208733336176461620"},
		{80, 41, "104885081691059684352800"},
	} {
		if got, e := comb.Choose(c.n, c.k); nat.Format(got) != c.want || e != api.OK {
			t.Errorf("Choose(%d, %d): %s, %v, not %s", c.n, c.k, nat.Format(got), e, c.want)
		}
	}
}

// P5.1: every binomial coefficient, and every k for which it is 0.
func TestChooseAndCount(t *testing.T) {
	for n := range most + 1 {
		for _, k := range lengths(n) {
			want, wantCount, wantErr := binomial(n, k), 0, api.ErrOverflow
			if isInt(want) {
				wantCount, wantErr = int(want.Int64()), api.OK
			}
			if a, e := comb.Choose(n, k); e != api.OK || !same(a, want) {
				t.Errorf("Choose(%d, %d): %v, %v, not %v", n, k, a.Limbs, e, want)
			}
			if count, e := comb.Count(n, k); count != wantCount || e != wantErr {
				t.Errorf("Count(%d, %d): %d, %v, not %d, %v", n, k, count, e, wantCount, wantErr)
			}
		}
	}
}

// P5.1: ErrRange, whatever k is, and no result with it.
func TestSizes(t *testing.T) {
	for _, n := range badSizes() {
		for _, k := range append(lengths(most), n, n-1) {
			if a, e := comb.Choose(n, k); e != api.ErrRange || len(a.Limbs) != 0 {
				t.Errorf("Choose(%d, %d): %v, %v", n, k, a.Limbs, e)
			}
			if count, e := comb.Count(n, k); e != api.ErrRange || count != 0 {
				t.Errorf("Count(%d, %d): %d, %v", n, k, count, e)
			}
		}
	}
}

// P5.1: C(n, k) is the number of subsets.
func TestCountOfSubsets(t *testing.T) {
	for n := range 13 {
		for k := -1; k <= n+1; k++ {
			if count, e := comb.Count(n, k); count != len(combinations(n, k)) || e != api.OK {
				t.Errorf("Count(%d, %d): %d, %v, not %d", n, k, count, e, len(combinations(n, k)))
			}
		}
	}
}

// P5.2
func TestHitsExamples(t *testing.T) {
	for _, c := range []struct {
		n, k, drawn, hits, want int
		e                       api.Errno
	}{
		{49, 6, 6, 3, 246820, api.OK},
		{49, 6, 6, 6, 1, api.OK},
		{49, 6, 6, 0, 6096454, api.OK},
		{49, 6, 6, 7, 0, api.OK},
		{49, 6, 6, -1, 0, api.OK},
		{49, 7, 6, 7, 0, api.OK},
		{49, 6, 0, 0, 13983816, api.OK},
		{49, 6, 0, 1, 0, api.OK},
		{49, 6, 49, 6, 13983816, api.OK},
		{49, 6, 49, 5, 0, api.OK},
		{49, 6, 50, 3, 0, api.ErrRange},
		{49, 6, -1, 3, 0, api.ErrRange},
		{49, 60, 50, 60, 0, api.ErrRange},
		{0, 0, 0, 0, 1, api.OK},
		{0, 0, 1, 0, 0, api.ErrRange},
		{5, 9, 2, 1, 0, api.OK},
		{5, -1, 2, 0, 0, api.OK},
		{5, -1, 2, -1, 0, api.OK},
		{5, 6, 5, 5, 0, api.OK},
		{81, 6, 6, 3, 0, api.ErrRange},
		{81, 6, 82, 3, 0, api.ErrRange},
		{-1, 0, -1, 0, 0, api.ErrRange},
		{-1, 0, -2, 0, 0, api.ErrRange},
		// C(0, 0) and C(80, 40), in both places.
		{80, 40, 0, 0, 0, api.ErrOverflow},
		{80, 40, 80, 40, 0, api.ErrOverflow},
		// A factor 0 beside C(80, 40), C(70, 35), C(79, 40).
		{80, 40, 40, 41, 0, api.OK},
		{80, 39, 80, 40, 0, api.OK},
		{80, 41, 80, 40, 0, api.OK},
		{80, 40, 0, 1, 0, api.OK},
		{80, 40, 0, -1, 0, api.OK},
		{80, 34, 70, 35, 0, api.OK},
		{80, 35, 70, 35, 0, api.ErrOverflow},
		{80, 45, 70, 35, 0, api.ErrOverflow},
		{80, 46, 70, 35, 0, api.OK},
		{80, 40, 1, 2, 0, api.OK},
		{80, 40, 1, 0, 0, api.ErrOverflow},
		// The greatest product that is an int, and the least one that is not; all factors are ints.
		{72, 29, 28, 14, 9223272376788729600, api.OK},
		{72, 43, 44, 29, 9223272376788729600, api.OK},
		{71, 29, 30, 14, 0, api.ErrOverflow},
		{71, 42, 41, 26, 0, api.ErrOverflow},
		{80, 40, 40, 20, 0, api.ErrOverflow},
		{74, 23, 0, 0, greatest, api.OK},
		{74, 23, 74, 23, greatest, api.OK},
		{75, 23, 74, 23, greatest, api.OK},
		{75, 24, 74, 23, greatest, api.OK},
		{76, 24, 74, 23, 0, api.ErrOverflow},
	} {
		if got, e := comb.Hits(c.n, c.k, c.drawn, c.hits); got != c.want || e != c.e {
			t.Errorf("Hits(%d, %d, %d, %d): %d, %v, not %d, %v", c.n, c.k, c.drawn, c.hits, got, e, c.want, c.e)
		}
	}
}

// P5.2: the subsets themselves are counted; the given numbers are the first ones.
func TestHitsOfSubsets(t *testing.T) {
	for n := range 11 {
		for k := range n + 1 {
			for drawn := range n + 1 {
				counts := make([]int, n+1)
				for _, l := range combinations(n, k) {
					index, _ := slices.BinarySearch(l, drawn+1)
					counts[index]++
				}
				for hits, count := range counts {
					if got, e := comb.Hits(n, k, drawn, hits); got != count || e != api.OK {
						t.Errorf("Hits(%d, %d, %d, %d): %d, %v, not %d", n, k, drawn, hits, got, e, count)
					}
				}
			}
		}
	}
}

// P5.2: the product, up to the sizes at which it is no int, and P5.7: the sum over all hits.
func TestHits(t *testing.T) {
	for _, n := range []int{0, 1, 2, 5, 20, 49, 60, 66, 67, 71, 72, 79, 80} {
		for drawn := range n + 1 {
			for k := range n + 1 {
				sum, all := 0, true
				for hits := range drawn + 1 {
					got, e := checkHits(t, n, k, drawn, hits)
					sum, all = sum+got, all && e == api.OK
				}
				if count, e := comb.Count(n, k); e == api.OK && (!all || sum != count) {
					t.Errorf("The hits of (%d, %d, %d): %d, not %d", n, k, drawn, sum, count)
				}
			}
		}
	}
}

func checkHits(t *testing.T, n, k, drawn, hits int) (int, api.Errno) {
	t.Helper()
	product, want, wantErr := new(big.Int), 0, api.ErrOverflow
	if k >= hits && k-hits <= n-drawn {
		product.Mul(binomial(drawn, hits), binomial(n-drawn, k-hits))
	}
	if isInt(product) {
		want, wantErr = int(product.Int64()), api.OK
	}
	got, e := comb.Hits(n, k, drawn, hits)
	if got != want || e != wantErr {
		t.Errorf("Hits(%d, %d, %d, %d): %d, %v, not %d, %v", n, k, drawn, hits, got, e, want, wantErr)
	}
	return got, e
}

// P5.2: any ints as k and hits, and then any ints as n and drawn.
func TestHitsOfOthers(t *testing.T) {
	near := append(odd(), -1, 0, 1, 6, 40, 80, 81)
	for _, n := range []int{0, 6, 49, 80} {
		for _, x := range near {
			for _, y := range append(odd(), -1, n+1) {
				for _, drawn := range []int{0, n / 2, n} {
					if got, e := comb.Hits(n, x, drawn, y); got != 0 || e != api.OK {
						t.Errorf("Hits(%d, %d, %d, %d): %d, %v", n, x, drawn, y, got, e)
					}
					if got, e := comb.Hits(n, y, drawn, x); got != 0 || e != api.OK {
						t.Errorf("Hits(%d, %d, %d, %d): %d, %v", n, y, drawn, x, got, e)
					}
				}
				for _, drawn := range []int{-1, n + 1, x, y} {
					if got, e := comb.Hits(n, x, drawn, y); (drawn < 0 || drawn > n) && (got != 0 || e != api.ErrRange) {
						t.Errorf("Hits(%d, %d, %d, %d): %d, %v", n, x, drawn, y, got, e)
					}
				}
			}
		}
	}
	for _, n := range badSizes() {
		for _, x := range append(near, n) {
			for _, y := range append(near, n) {
				for _, drawn := range []int{0, 1, 40, 80, x, n} {
					if got, e := comb.Hits(n, x, drawn, y); got != 0 || e != api.ErrRange {
						t.Errorf("Hits(%d, %d, %d, %d): %d, %v", n, x, drawn, y, got, e)
					}
				}
			}
		}
	}
}

// P5.3 to P5.6: all combinations of small numbers, in order.
func TestSmallCombinations(t *testing.T) {
	for n := range 12 {
		for k := range n + 1 {
			all := combinations(n, k)
			for i, l := range all {
				if r, e := comb.Rank(l, n); r != i || e != api.OK {
					t.Errorf("Rank(%v, %d): %d, %v, not %d", l, n, r, e, i)
				}
				if got, e := comb.Unrank(i, n, k); !slices.Equal(got, l) || e != api.OK {
					t.Errorf("Unrank(%d, %d, %d): %v, %v, not %v", i, n, k, got, e, l)
				}
				var want []int
				if i+1 < len(all) {
					want = all[i+1]
				}
				if next, ok := comb.Next(l, n); ok != (i+1 < len(all)) || !slices.Equal(next, want) {
					t.Errorf("Next(%v, %d): %v, %t, not %v", l, n, next, ok, want)
				}
			}
			for _, r := range []int{-1, len(all), len(all) + 1} {
				if got, e := comb.Unrank(r, n, k); len(got) != 0 || e != api.ErrRange {
					t.Errorf("Unrank(%d, %d, %d): %v, %v", r, n, k, got, e)
				}
			}
		}
	}
}

// ranks are some from 0 to count - 1, the first and the last among them.
func ranks(r *rand.Rand, count int) []int {
	l := []int{0, count - 1}
	if count > 1 {
		l = append(l, 1, count-2, count/2, count/3)
	}
	for range 4 {
		l = append(l, r.IntN(count))
	}
	return l
}

// P5.3, P5.4, P5.6: all sizes and lengths of which there are no more combinations than an int.
func TestRankAndUnrank(t *testing.T) {
	r := rand.New(rand.NewPCG(5, 49))
	for n := range most + 1 {
		for k := range n + 1 {
			count := binomial(n, k)
			if !isInt(count) {
				continue
			}
			for _, rank := range ranks(r, int(count.Int64())) {
				l, e := comb.Unrank(rank, n, k)
				if e != api.OK || len(l) != k || !isCombination(l, n) || rankOf(l, n).Cmp(wide(rank)) != 0 {
					t.Errorf("Unrank(%d, %d, %d): %v, %v", rank, n, k, l, e)
				}
				if again, e := comb.Rank(l, n); again != rank || e != api.OK {
					t.Errorf("Rank(%v, %d): %d, %v, not %d", l, n, again, e, rank)
				}
			}
			for range 4 {
				checkInverse(t, anyCombination(r, n, k), n)
			}
			checkInverse(t, ascending(1, k), n)
			checkInverse(t, ascending(n-k+1, k), n)
		}
	}
}

func isCombination(l []int, n int) bool {
	before := 0
	for _, element := range l {
		if element <= before || element > n {
			return false
		}
		before = element
	}
	return true
}

func checkInverse(t *testing.T, l []int, n int) {
	t.Helper()
	rank, e := comb.Rank(l, n)
	if e != api.OK || rankOf(l, n).Cmp(wide(rank)) != 0 {
		t.Errorf("Rank(%v, %d): %d, %v, not %v", l, n, rank, e, rankOf(l, n))
	}
	if again, e := comb.Unrank(rank, n, len(l)); !slices.Equal(again, l) || e != api.OK {
		t.Errorf("Unrank(%d, %d, %d): %v, %v, not %v", rank, n, len(l), again, e, l)
	}
}

// P5.3, with ranks that are written out.
func TestRankExamples(t *testing.T) {
	for _, c := range []struct {
		l    []int
		n    int
		rank int
		e    api.Errno
	}{
		{[]int{2, 3}, 4, 3, api.OK},
		{[]int{3, 4}, 4, 5, api.OK},
		{nil, 4, 0, api.OK},
		{[]int{}, 4, 0, api.OK},
		{nil, 0, 0, api.OK},
		{nil, 80, 0, api.OK},
		{[]int{1}, 1, 0, api.OK},
		{[]int{80}, 80, 79, api.OK},
		{[]int{1, 2, 3, 4, 5, 6}, 49, 0, api.OK},
		{[]int{1, 2, 3, 4, 5, 7}, 49, 1, api.OK},
		{[]int{1, 2, 3, 4, 5, 49}, 49, 43, api.OK},
		{[]int{1, 2, 3, 4, 6, 7}, 49, 44, api.OK},
		{[]int{43, 44, 45, 46, 47, 48}, 49, 13983809, api.OK},
		{[]int{43, 45, 46, 47, 48, 49}, 49, 13983814, api.OK},
		{[]int{44, 45, 46, 47, 48, 49}, 49, 13983815, api.OK},
		{ascending(1, 80), 80, 0, api.OK},
		{ascending(2, 79), 80, 79, api.OK},
		{ascending(52, 23), 74, greatest - 1, api.OK},
		{ascending(24, 51), 74, greatest - 1, api.OK},
		{ascending(34, 33), 66, 7219428434016265739, api.OK},
		{ascending(1, 20), 80, 0, api.OK},
		{ascending(1, 21), 80, 0, api.ErrOverflow},
		{ascending(1, 25), 71, 0, api.ErrOverflow},
		{ascending(1, 33), 67, 0, api.ErrOverflow},
		{ascending(41, 40), 80, 0, api.ErrOverflow},
		{[]int{3, 2}, 4, 0, api.ErrSyntax},
		{[]int{3, 9}, 4, 0, api.ErrRange},
		{[]int{9, 2}, 4, 0, api.ErrRange},
		{[]int{9, 3, 2}, 4, 0, api.ErrRange},
		{[]int{3, 2, 9}, 4, 0, api.ErrSyntax},
		{[]int{1}, 0, 0, api.ErrRange},
		{[]int{0}, 0, 0, api.ErrRange},
		{nil, 81, 0, api.ErrRange},
		{nil, -1, 0, api.ErrRange},
	} {
		if rank, e := comb.Rank(c.l, c.n); rank != c.rank || e != c.e {
			t.Errorf("Rank(%v, %d): %d, %v, not %d, %v", c.l, c.n, rank, e, c.rank, c.e)
		}
	}
}

// P5.3, P5.5: lists that are not combinations; their errors come before that of too many combinations.
func TestOthers(t *testing.T) {
	for n := 1; n <= most; n++ {
		for _, c := range others(n) {
			if rank, e := comb.Rank(c.l, n); rank != 0 || e != c.e {
				t.Errorf("Rank(%v, %d): %d, %v, not %v", c.l, n, rank, e, c.e)
			}
			if next, ok := comb.Next(c.l, n); len(next) != 0 || ok {
				t.Errorf("Next(%v, %d): %v, %t", c.l, n, next, ok)
			}
		}
	}
	for _, c := range []struct {
		l []int
		e api.Errno
	}{
		{append(ascending(1, 40), 81), api.ErrRange},
		{append(ascending(1, 40), 40), api.ErrSyntax},
		{append([]int{0}, ascending(2, 39)...), api.ErrRange},
		{append([]int{2, 2}, ascending(3, 38)...), api.ErrSyntax},
	} {
		if rank, e := comb.Rank(c.l, 80); rank != 0 || e != c.e {
			t.Errorf("Rank(%v, 80): %d, %v, not %v", c.l, rank, e, c.e)
		}
	}
}

// P5.3, P5.5: an n that is no size comes before every error of the list.
func TestRankAndNextSizes(t *testing.T) {
	for _, n := range badSizes() {
		for _, l := range [][]int{nil, {}, {1}, {1, 2}, {2, 1}, {1, 1}, {n}, {0}, {-1}, ascending(1, 40), ascending(1, 81)} {
			if rank, e := comb.Rank(l, n); rank != 0 || e != api.ErrRange {
				t.Errorf("Rank(%v, %d): %d, %v", l, n, rank, e)
			}
			if next, ok := comb.Next(l, n); len(next) != 0 || ok {
				t.Errorf("Next(%v, %d): %v, %t", l, n, next, ok)
			}
		}
	}
}

// P5.4
func TestUnrankExamples(t *testing.T) {
	for _, c := range []struct {
		r, n, k int
		want    []int
		e       api.Errno
	}{
		{5, 4, 2, []int{3, 4}, api.OK},
		{0, 4, 2, []int{1, 2}, api.OK},
		{6, 4, 2, nil, api.ErrRange},
		{-1, 4, 2, nil, api.ErrRange},
		{0, 0, 0, nil, api.OK},
		{1, 0, 0, nil, api.ErrRange},
		{0, 80, 0, nil, api.OK},
		{1, 80, 0, nil, api.ErrRange},
		{-1, 80, 0, nil, api.ErrRange},
		{0, 80, 80, ascending(1, 80), api.OK},
		{1, 80, 80, nil, api.ErrRange},
		{79, 80, 1, []int{80}, api.OK},
		{80, 80, 1, nil, api.ErrRange},
		{0, 49, 6, []int{1, 2, 3, 4, 5, 6}, api.OK},
		{44, 49, 6, []int{1, 2, 3, 4, 6, 7}, api.OK},
		{13983815, 49, 6, []int{44, 45, 46, 47, 48, 49}, api.OK},
		{13983816, 49, 6, nil, api.ErrRange},
		{greatest - 1, 74, 23, ascending(52, 23), api.OK},
		{greatest, 74, 23, nil, api.ErrRange},
		{0, 74, 23, ascending(1, 23), api.OK},
		{0, 71, 25, nil, api.ErrOverflow},
		{0, 80, 40, nil, api.ErrOverflow},
		{-1, 80, 40, nil, api.ErrOverflow},
		{math.MaxInt, 80, 40, nil, api.ErrOverflow},
		{math.MinInt, 80, 40, nil, api.ErrOverflow},
		{0, 4, 5, nil, api.ErrRange},
		{0, 4, -1, nil, api.ErrRange},
		{0, 80, 81, nil, api.ErrRange},
		{0, 81, 40, nil, api.ErrRange},
		{0, 81, 0, nil, api.ErrRange},
		{0, 81, 81, nil, api.ErrRange},
		{0, -1, 0, nil, api.ErrRange},
		{0, -1, -1, nil, api.ErrRange},
	} {
		if l, e := comb.Unrank(c.r, c.n, c.k); !slices.Equal(l, c.want) || e != c.e {
			t.Errorf("Unrank(%d, %d, %d): %v, %v, not %v, %v", c.r, c.n, c.k, l, e, c.want, c.e)
		}
	}
}

// P5.4: any ints as each of the arguments; n and k come before the number of combinations, and that before r.
func TestUnrankOfOthers(t *testing.T) {
	for n := range most + 1 {
		for _, k := range lengths(n) {
			count, want := binomial(n, k), api.ErrRange
			if k >= 0 && k <= n && !isInt(count) {
				want = api.ErrOverflow
			}
			for _, r := range append(odd(), -1) {
				if r >= 0 && wide(r).Cmp(count) < 0 && want == api.ErrRange {
					continue
				}
				if l, e := comb.Unrank(r, n, k); len(l) != 0 || e != want {
					t.Errorf("Unrank(%d, %d, %d): %v, %v, not %v", r, n, k, l, e, want)
				}
			}
		}
	}
	for _, n := range badSizes() {
		for _, k := range append(odd(), -1, 0, 1, 40, 80, 81, n) {
			for _, r := range append(odd(), -1, 0, 1) {
				if l, e := comb.Unrank(r, n, k); len(l) != 0 || e != api.ErrRange {
					t.Errorf("Unrank(%d, %d, %d): %v, %v", r, n, k, l, e)
				}
			}
		}
	}
}

// P5.5
func TestNextExamples(t *testing.T) {
	for _, c := range []struct {
		l    []int
		n    int
		want []int
	}{
		{[]int{1, 4}, 4, []int{2, 3}},
		{[]int{3, 4}, 4, nil},
		{[]int{3, 4}, 5, []int{3, 5}},
		{[]int{1}, 1, nil},
		{[]int{1}, 2, []int{2}},
		{[]int{79}, 80, []int{80}},
		{[]int{80}, 80, nil},
		{[]int{1, 2, 3, 4, 5, 49}, 49, []int{1, 2, 3, 4, 6, 7}},
		{[]int{1, 45, 46, 47, 48, 49}, 49, []int{2, 3, 4, 5, 6, 7}},
		{[]int{1, 2, 46, 47, 48, 49}, 49, []int{1, 3, 4, 5, 6, 7}},
		{[]int{44, 45, 46, 47, 48, 49}, 49, nil},
		{[]int{43, 45, 46, 47, 48, 49}, 49, []int{44, 45, 46, 47, 48, 49}},
		{[]int{1, 3, 5, 9}, 9, []int{1, 3, 6, 7}},
		{nil, 0, nil},
		{nil, 4, nil},
		{[]int{}, 80, nil},
		{ascending(1, 80), 80, nil},
		{ascending(1, 79), 80, append(ascending(1, 78), 80)},
		{append([]int{1}, ascending(3, 78)...), 80, ascending(2, 79)},
		// There are more combinations than an int.
		{ascending(1, 40), 80, append(ascending(1, 39), 41)},
		{append([]int{1}, ascending(42, 39)...), 80, ascending(2, 40)},
		{ascending(41, 40), 80, nil},
		{[]int{3, 2}, 4, nil},
		{[]int{2, 2}, 4, nil},
		{[]int{3, 9}, 4, nil},
		{[]int{9, 2}, 4, nil},
		{[]int{0, 2}, 4, nil},
		{[]int{1}, 0, nil},
		{[]int{1, 2}, 81, nil},
		{[]int{1, 2}, -1, nil},
	} {
		if next, ok := comb.Next(c.l, c.n); ok != (c.want != nil) || !slices.Equal(next, c.want) {
			t.Errorf("Next(%v, %d): %v, %t, not %v", c.l, c.n, next, ok, c.want)
		}
	}
}

// P5.5, P5.6: combinations of all sizes and lengths; the next one has the next rank, and after the last one there is none.
func TestNext(t *testing.T) {
	r := rand.New(rand.NewPCG(6, 49))
	for n := range most + 1 {
		for k := range n + 1 {
			checkNext(t, ascending(1, k), n)
			checkNext(t, ascending(n-k+1, k), n)
			for range 4 {
				checkNext(t, anyCombination(r, n, k), n)
				// The greatest combination with a given beginning.
				l, tail := anyCombination(r, n, k), r.IntN(k+1)
				if tail == k || l[k-tail-1] <= n-tail {
					checkNext(t, append(l[:k-tail], ascending(n-tail+1, tail)...), n)
				}
			}
		}
	}
}

func checkNext(t *testing.T, l []int, n int) {
	t.Helper()
	rank, count := rankOf(l, n), binomial(n, len(l))
	rank.Add(rank, wide(1))
	next, ok := comb.Next(l, n)
	if rank.Cmp(count) == 0 {
		if len(next) != 0 || ok {
			t.Errorf("Next(%v, %d): %v, %t", l, n, next, ok)
		}
		return
	}
	if !ok || len(next) != len(l) || !isCombination(next, n) || rankOf(next, n).Cmp(rank) != 0 {
		t.Errorf("Next(%v, %d): %v, %t", l, n, next, ok)
	}
	old, e := comb.Rank(l, n)
	if young, e2 := comb.Rank(next, n); e != e2 || e == api.OK && young != old+1 {
		t.Errorf("Rank of %v: %d, %v, of the next one: %d, %v", l, old, e, young, e2)
	}
}

// P5.5: from the first combination on, all of them follow.
func TestNextOfAll(t *testing.T) {
	for _, c := range [][2]int{{80, 1}, {80, 2}, {80, 3}, {80, 78}, {80, 79}, {49, 4}, {25, 5}, {16, 8}} {
		n, k := c[0], c[1]
		count, l, ok := 1, ascending(1, k), true
		for {
			var next []int
			next, ok = comb.Next(l, n)
			if !ok {
				break
			}
			if slices.Compare(next, l) <= 0 {
				t.Fatalf("Next(%v, %d): %v", l, n, next)
			}
			l = next
			count++
		}
		if wide(count).Cmp(binomial(n, k)) != 0 || !slices.Equal(l, ascending(n-k+1, k)) {
			t.Errorf("%d combinations of %d with length %d, up to %v", count, n, k, l)
		}
	}
}

// P5.7
func TestIdentities(t *testing.T) {
	choose := func(n, k int) api.Nat {
		a, e := comb.Choose(n, k)
		if e != api.OK {
			t.Fatalf("Choose(%d, %d): %v", n, k, e)
		}
		return a
	}
	for n := range most + 1 {
		for k := -3; k <= n+3; k++ {
			whole := choose(n, k)
			if nat.Cmp(whole, choose(n, n-k)) != 0 {
				t.Errorf("C(%d, %d) is not C(%d, %d)", n, k, n, n-k)
			}
			count, e := comb.Count(n, k)
			if mirrored, e2 := comb.Count(n, n-k); count != mirrored || e != e2 {
				t.Errorf("Count(%d, %d): %d, %v, but Count(%d, %d): %d, %v", n, k, count, e, n, n-k, mirrored, e2)
			}
			if n == 0 {
				continue
			}
			if sum, e := nat.Add(choose(n-1, k-1), choose(n-1, k)); e != api.OK || nat.Cmp(sum, whole) != 0 {
				t.Errorf("C(%d, %d) is not the sum", n, k)
			}
			first, _ := comb.Count(n-1, k-1)
			if second, _ := comb.Count(n-1, k); e == api.OK && first+second != count {
				t.Errorf("Count(%d, %d): %d, not %d + %d", n, k, count, first, second)
			}
		}
	}
}

// R3: arguments stay as they are, their spare capacity too.
func TestArguments(t *testing.T) {
	r := rand.New(rand.NewPCG(7, 49))
	lists := [][]int{nil, {1}, {80}, {3, 2}, {5, 5}, {9, 81}, {81, 9}, {1, 80}, {1, 2, 79, 80}, {44, 45, 46, 47, 48, 49}, ascending(41, 40), ascending(1, 80), ascending(2, 80)}
	for k := range 60 {
		lists = append(lists, anyCombination(r, 80, k))
	}
	for _, l := range lists {
		memory := append(slices.Clone(l), slices.Repeat([]int{77}, 100)...)
		given := slices.Clone(memory)
		for _, n := range []int{-1, 0, 49, 80, 81} {
			comb.Rank(memory[:len(l)], n)
			next, _ := comb.Next(memory[:len(l)], n)
			if !slices.Equal(memory, given) {
				t.Fatalf("Rank or Next of %v in %d leaves %v", l, n, memory)
			}
			for i := range next[:cap(next)] {
				next[:cap(next)][i] = -7
			}
			if !slices.Equal(memory, given) {
				t.Fatalf("Next(%v, %d) shares memory with its argument", l, n)
			}
		}
	}
}

// R3, R7: results are new memory, and a call leaves nothing behind that a later one could observe.
func TestResults(t *testing.T) {
	for range 2 {
		for _, c := range []struct{ n, k int }{{4, 2}, {49, 6}, {80, 3}, {80, 0}, {5, 1}, {5, 5}, {0, 0}} {
			l, _ := comb.Unrank(0, c.n, c.k)
			other, _ := comb.Unrank(0, c.n, c.k)
			next, _ := comb.Next(l, c.n)
			another, _ := comb.Next(l, c.n)
			kept, keptNext := slices.Clone(other), slices.Clone(another)
			for _, result := range [][]int{l, next} {
				for i := range result[:cap(result)] {
					result[:cap(result)][i] = -9
				}
			}
			if !slices.Equal(other, kept) || !slices.Equal(another, keptNext) || !slices.Equal(kept, ascending(1, c.k)) {
				t.Errorf("Results of %d and %d share memory: %v, %v", c.n, c.k, other, another)
			}
		}
		for _, c := range []struct {
			n, k int
			want string
		}{{4, 0, "1"}, {4, 2, "6"}, {80, 40, "107507208733336176461620"}, {4, 9, "0"}} {
			a, _ := comb.Choose(c.n, c.k)
			for i := range a.Limbs[:cap(a.Limbs)] {
				a.Limbs[:cap(a.Limbs)][i] = 12345
			}
			if b, _ := comb.Choose(c.n, c.k); nat.Format(b) != c.want {
				t.Errorf("Choose(%d, %d) after its result was changed: %s", c.n, c.k, nat.Format(b))
			}
		}
	}
}
