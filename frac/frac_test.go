package frac_test

import (
	"math"
	"math/big"
	"math/rand/v2"
	"slices"
	"strings"
	"testing"

	"lottery/api"
	"lottery/frac"
)

const most = api.MaxLimbs

func wide(n int) *big.Int {
	return big.NewInt(int64(n))
}

// power returns 2^n + d.
func power(n uint, d int) *big.Int {
	return new(big.Int).Add(new(big.Int).Lsh(wide(1), n), wide(d))
}

// raise returns base^n.
func raise(base, n int) *big.Int {
	return new(big.Int).Exp(wide(base), wide(n), nil)
}

func times(a, b *big.Int) *big.Int {
	return new(big.Int).Mul(a, b)
}

// limit is the first number that has too many limbs.
func limit() *big.Int {
	return power(32*most, 0)
}

func greatest() *big.Int {
	return power(32*most, -1)
}

// natOf returns the natural number n by the definition, however many limbs it has.
func natOf(n *big.Int) api.Nat {
	limbs := []uint32{}
	for rest := new(big.Int).Set(n); rest.Sign() > 0; rest.Rsh(rest, 32) {
		limbs = append(limbs, uint32(new(big.Int).And(rest, power(32, -1)).Uint64()))
	}
	return api.Nat{Limbs: limbs}
}

// parts returns n / d as it is, in lowest terms or not.
func parts(n, d *big.Int) api.Frac {
	return api.Frac{Num: natOf(n), Den: natOf(d)}
}

func small(n, d int) api.Frac {
	return parts(wide(n), wide(d))
}

// ratio returns the value n / d.
func ratio(n, d *big.Int) *big.Rat {
	return new(big.Rat).SetFrac(n, d)
}

// of returns the valid fraction with the value r.
func of(r *big.Rat) api.Frac {
	return parts(r.Num(), r.Denom())
}

func same(f, g api.Frac) bool {
	return slices.Equal(f.Num.Limbs, g.Num.Limbs) && slices.Equal(f.Den.Limbs, g.Den.Limbs)
}

func isNone(f api.Frac) bool {
	return len(f.Num.Limbs) == 0 && len(f.Den.Limbs) == 0
}

// edges are values whose parts, products or sums are at an edge.
func edges() []*big.Rat {
	one := wide(1)
	l := []*big.Rat{new(big.Rat), ratio(power(2047, 0), power(2047, -1)), ratio(greatest(), power(2048, -2)), ratio(power(2048, -2), greatest())}
	for _, p := range [][2]int{{1, 1}, {1, 2}, {2, 1}, {1, 3}, {2, 3}, {3, 2}, {1, 6}, {1, 10}, {49, 6}, {999999999, 1000000000}} {
		l = append(l, big.NewRat(int64(p[0]), int64(p[1])))
	}
	for _, n := range []*big.Int{power(32, -1), power(32, 0), power(1023, 0), power(1024, -1), power(1024, 0), power(1024, 1), power(2016, 0), power(2047, 0), greatest()} {
		l = append(l, ratio(n, one), ratio(one, n), ratio(n, wide(3)), ratio(wide(3), n))
	}
	return append(l, ratio(power(1024, -1), power(1023, 0)), ratio(power(1023, 0), power(1024, -1)), ratio(raise(3, 1290), power(2046, 0)), ratio(power(2046, 0), raise(3, 1290)))
}

// anyNumber returns a number of 1 to limbs limbs, with many limbs at edges.
func anyNumber(r *rand.Rand, limbs int) *big.Int {
	n := new(big.Int)
	for range 1 + r.IntN(limbs) {
		limb := r.Uint32() >> r.IntN(32)
		switch r.IntN(4) {
		case 0:
			limb = 0
		case 1:
			limb = math.MaxUint32
		}
		n.Add(n.Lsh(n, 32), new(big.Int).SetUint64(uint64(limb)))
	}
	return n
}

// anyValue returns a value whose parts have at most so many limbs.
func anyValue(r *rand.Rand, limbs int) *big.Rat {
	n, d := anyNumber(r, limbs), anyNumber(r, limbs)
	if d.Sign() == 0 {
		d.SetInt64(1)
	}
	return ratio(n, d)
}

// pairs are all pairs of edges, and pairs of values of all sizes, the same in each run.
func pairs(count int) [][2]*big.Rat {
	var l [][2]*big.Rat
	for _, a := range edges() {
		for _, b := range edges() {
			l = append(l, [2]*big.Rat{a, b})
		}
	}
	r := rand.New(rand.NewPCG(4, 6))
	for range count {
		limbs := 1 + r.IntN(most)
		l = append(l, [2]*big.Rat{anyValue(r, limbs), anyValue(r, 1+r.IntN(min(most, most+2-limbs)))})
	}
	return l
}

// badNats are Nats that are not valid.
func badNats() []api.Nat {
	full := slices.Repeat([]uint32{math.MaxUint32}, 2000)
	return []api.Nat{
		{Limbs: []uint32{0}}, {Limbs: []uint32{0, 0}}, {Limbs: []uint32{1, 0}}, {Limbs: []uint32{7, 7, 7, 0}},
		{Limbs: make([]uint32, most)}, {Limbs: append(slices.Clone(full[:most-1]), 0)}, {Limbs: append(slices.Clone(full[:most]), 0)},
		{Limbs: append(make([]uint32, most), 1)}, {Limbs: full[:most+1]}, {Limbs: full},
	}
}

// others are fractions that are not valid.
func others() []api.Frac {
	one, l := natOf(wide(1)), []api.Frac{}
	for _, bad := range badNats() {
		l = append(l, api.Frac{Num: bad, Den: one}, api.Frac{Num: one, Den: bad}, api.Frac{Num: bad, Den: bad}, api.Frac{Num: bad}, api.Frac{Den: bad})
	}
	for _, p := range [][2]*big.Int{
		{wide(0), wide(0)}, {wide(1), wide(0)}, {wide(5), wide(0)}, {greatest(), wide(0)}, {wide(0), wide(2)}, {wide(0), wide(7)}, {wide(0), greatest()},
		{wide(2), wide(4)}, {wide(4), wide(2)}, {wide(2), wide(2)}, {wide(3), wide(3)}, {wide(6), wide(9)}, {wide(15), wide(10)}, {wide(35), wide(21)}, {power(40, 0), wide(6)},
		{power(32, 0), power(64, 0)}, {power(2047, 0), wide(2)}, {wide(2), power(2047, 0)}, {greatest(), greatest()}, {power(1024, -1), greatest()}, {greatest(), power(1024, 1)},
		{power(2048, -2), power(2047, -1)}, {times(raise(3, 600), wide(5)), times(raise(2, 600), wide(5))},
	} {
		l = append(l, parts(p[0], p[1]))
	}
	return l
}

// An outcome is what a call has to return: a value, or an error.
type outcome struct {
	value *big.Rat
	e     api.Errno
}

// quotient is the outcome n / d, unless one of the numbers on the way to it has too many limbs.
func quotient(n, d *big.Int, numbers ...*big.Int) outcome {
	for _, number := range append(numbers, n, d) {
		if number.Cmp(limit()) >= 0 {
			return outcome{e: api.ErrOverflow}
		}
	}
	return outcome{value: ratio(n, d)}
}

func check(t *testing.T, name string, f api.Frac, e api.Errno, want outcome) {
	t.Helper()
	none := want.value == nil
	if e != want.e || none && !isNone(f) || !none && !same(f, of(want.value)) {
		t.Errorf("%s: %v, %v, not %v, %v", name, f, e, want.value, want.e)
	}
}

// A calculation is a function of two fractions, with what the chapter says that it returns.
type calculation struct {
	name string
	call func(f, g api.Frac) (api.Frac, api.Errno)
	want func(f, g *big.Rat) outcome
}

func calculations() []calculation {
	return []calculation{{"Add", frac.Add, wantSum}, {"Sub", frac.Sub, wantDifference}, {"Mul", frac.Mul, wantProduct}, {"Div", frac.Div, wantQuotient}}
}

func wantSum(f, g *big.Rat) outcome {
	left, right := times(f.Num(), g.Denom()), times(g.Num(), f.Denom())
	return quotient(new(big.Int).Add(left, right), times(f.Denom(), g.Denom()), left, right)
}

func wantDifference(f, g *big.Rat) outcome {
	if f.Cmp(g) < 0 {
		return outcome{e: api.ErrRange}
	}
	left, right := times(f.Num(), g.Denom()), times(g.Num(), f.Denom())
	return quotient(new(big.Int).Sub(left, right), times(f.Denom(), g.Denom()), left, right)
}

func wantProduct(f, g *big.Rat) outcome {
	return quotient(times(f.Num(), g.Num()), times(f.Denom(), g.Denom()))
}

func wantQuotient(f, g *big.Rat) outcome {
	if g.Sign() == 0 {
		return outcome{e: api.ErrDivide}
	}
	return quotient(times(f.Num(), g.Denom()), times(f.Denom(), g.Num()))
}

// P4.1
func TestOf(t *testing.T) {
	for _, c := range []struct {
		n, d int
		f    api.Frac
		e    api.Errno
	}{
		{6, 4, small(3, 2), api.OK},
		{0, 5, small(0, 1), api.OK},
		{0, 1, small(0, 1), api.OK},
		{0, math.MaxInt, small(0, 1), api.OK},
		{5, 1, small(5, 1), api.OK},
		{7, 7, small(1, 1), api.OK},
		{4, 6, small(2, 3), api.OK},
		{12, 4, small(3, 1), api.OK},
		{17, 5, small(17, 5), api.OK},
		{1 << 40, 1 << 33, small(128, 1), api.OK},
		{1 << 33, 3 << 40, small(1, 384), api.OK},
		{math.MaxInt, 1, small(math.MaxInt, 1), api.OK},
		{1, math.MaxInt, small(1, math.MaxInt), api.OK},
		{math.MaxInt, 49, small(math.MaxInt/49, 1), api.OK},
		{math.MaxInt, math.MaxInt - 1, small(math.MaxInt, math.MaxInt-1), api.OK},
		{math.MaxInt, math.MaxInt, small(1, 1), api.OK},
		{0, 0, api.Frac{}, api.ErrDivide},
		{1, 0, api.Frac{}, api.ErrDivide},
		{math.MaxInt, 0, api.Frac{}, api.ErrDivide},
		{-1, 0, api.Frac{}, api.ErrRange},
		{-1, 1, api.Frac{}, api.ErrRange},
		{0, -1, api.Frac{}, api.ErrRange},
		{1, -2, api.Frac{}, api.ErrRange},
		{-2, -2, api.Frac{}, api.ErrRange},
		{math.MinInt, 0, api.Frac{}, api.ErrRange},
		{math.MinInt, 1, api.Frac{}, api.ErrRange},
		{1, math.MinInt, api.Frac{}, api.ErrRange},
		{math.MinInt, math.MinInt, api.Frac{}, api.ErrRange},
	} {
		if f, e := frac.Of(c.n, c.d); !same(f, c.f) || e != c.e {
			t.Errorf("Of(%d, %d): %v, %v, not %v, %v", c.n, c.d, f, e, c.f, c.e)
		}
	}
}

// P4.1
func TestMake(t *testing.T) {
	numbers := []*big.Int{wide(0), wide(1), wide(2), wide(6), power(32, -1), power(32, 0), power(64, -1), power(1024, -1), power(1024, 0), power(1024, 1), raise(6, 700), power(2047, 0), power(2048, -2), greatest()}
	r := rand.New(rand.NewPCG(1, 4))
	for range 40 {
		common := anyNumber(r, 1+r.IntN(most/2))
		numbers = append(numbers, common, times(common, anyNumber(r, most/2)))
	}
	for _, n := range numbers {
		for _, d := range numbers {
			want := outcome{e: api.ErrDivide}
			if d.Sign() > 0 {
				want = outcome{value: ratio(n, d)}
			}
			f, e := frac.Make(natOf(n), natOf(d))
			check(t, "Make("+n.String()+", "+d.String()+")", f, e, want)
		}
	}
}

// P4.1: ErrRange comes before ErrDivide.
func TestMakeOfOthers(t *testing.T) {
	for _, bad := range badNats() {
		for _, n := range append(badNats(), natOf(wide(0)), natOf(wide(1)), natOf(greatest())) {
			f, e := frac.Make(bad, n)
			check(t, "Make of a bad numerator", f, e, outcome{e: api.ErrRange})
			f, e = frac.Make(n, bad)
			check(t, "Make of a bad denominator", f, e, outcome{e: api.ErrRange})
		}
	}
}

// P4.2, P4.8
func TestValid(t *testing.T) {
	for _, r := range edges() {
		if !frac.Valid(of(r)) {
			t.Errorf("Valid(%v): false", r)
		}
	}
	for _, bad := range others() {
		if frac.Valid(bad) {
			t.Errorf("Valid(%v): true", bad)
		}
	}
	for n := range 50 {
		for d := range 50 {
			divisor := new(big.Int).GCD(nil, nil, wide(n), wide(d))
			if want := d > 0 && divisor.Cmp(wide(1)) == 0; frac.Valid(small(n, d)) != want {
				t.Errorf("Valid(%d / %d): not %t", n, d, want)
			}
		}
	}
}

func checkCmp(t *testing.T, a, b *big.Rat) {
	t.Helper()
	if got := frac.Cmp(of(a), of(b)); got != a.Cmp(b) {
		t.Errorf("Cmp(%v, %v): %d", a, b, got)
	}
}

// P4.2
func TestCmp(t *testing.T) {
	for _, p := range pairs(600) {
		checkCmp(t, p[0], p[1])
	}
	for n := range 12 {
		for d := 1; d < 12; d++ {
			for m := range 12 {
				for k := 1; k < 12; k++ {
					checkCmp(t, ratio(wide(n), wide(d)), ratio(wide(m), wide(k)))
				}
			}
		}
	}
}

// P4.2: a fraction that is not valid is neither less nor greater than any other one.
func TestCmpOfOthers(t *testing.T) {
	for _, bad := range others() {
		for _, f := range append(others(), small(0, 1), small(1, 1), small(1, 3), small(7, 1), of(ratio(greatest(), wide(1))), of(ratio(wide(1), greatest()))) {
			if frac.Cmp(bad, f) != 0 || frac.Cmp(f, bad) != 0 {
				t.Errorf("Cmp of %v and %v is not 0", bad, f)
			}
		}
	}
}

// P4.2: neighbours among the fractions, whose parts have up to MaxLimbs limbs, and whose continued fractions differ only at the end.
func TestCmpOfNeighbours(t *testing.T) {
	r := rand.New(rand.NewPCG(10, 16))
	for round := range 30 {
		old, young := [2]*big.Int{wide(1), wide(0)}, [2]*big.Int{wide(r.IntN(3)), wide(1)}
		width := 1 << r.IntN(20)
		for i := 0; ; i++ {
			factor := wide(1)
			if round > 0 {
				factor = wide(1 + r.IntN(width))
			}
			n, d := times(factor, young[0]), times(factor, young[1])
			next := [2]*big.Int{n.Add(n, old[0]), d.Add(d, old[1])}
			if next[0].Cmp(limit()) >= 0 || next[1].Cmp(limit()) >= 0 {
				break
			}
			old, young = young, next
			if i%97 == 0 {
				checkNeighbours(t, old, young)
			}
		}
		checkNeighbours(t, old, young)
	}
}

func checkNeighbours(t *testing.T, old, young [2]*big.Int) {
	t.Helper()
	if old[1].Sign() == 0 {
		return
	}
	a, b := ratio(old[0], old[1]), ratio(young[0], young[1])
	checkCmp(t, a, b)
	checkCmp(t, b, a)
	checkCmp(t, a, a)
	checkCmp(t, b, b)
}

// P4.3, P4.4, P4.8
func TestCalculations(t *testing.T) {
	for _, p := range pairs(600) {
		for _, c := range calculations() {
			f, e := c.call(of(p[0]), of(p[1]))
			check(t, c.name+"("+p[0].String()+", "+p[1].String()+")", f, e, c.want(p[0], p[1]))
		}
	}
}

// P4.3, P4.4: the examples of the chapter, and small values.
func TestCalculationExamples(t *testing.T) {
	for i, c := range []struct {
		call       func(f, g api.Frac) (api.Frac, api.Errno)
		f, g, want api.Frac
		e          api.Errno
	}{
		{frac.Add, small(1, 6), small(1, 10), small(4, 15), api.OK},
		{frac.Add, small(1, 2), small(1, 3), small(5, 6), api.OK},
		{frac.Add, small(1, 3), small(2, 3), small(1, 1), api.OK},
		{frac.Add, small(0, 1), small(0, 1), small(0, 1), api.OK},
		{frac.Add, small(2, 4), small(1, 2), api.Frac{}, api.ErrRange},
		{frac.Sub, small(1, 10), small(1, 6), api.Frac{}, api.ErrRange},
		{frac.Sub, small(1, 6), small(1, 10), small(1, 15), api.OK},
		{frac.Sub, small(7, 3), small(1, 3), small(2, 1), api.OK},
		{frac.Sub, small(5, 7), small(5, 7), small(0, 1), api.OK},
		{frac.Sub, small(0, 1), small(0, 1), small(0, 1), api.OK},
		{frac.Sub, small(0, 1), small(1, 1), api.Frac{}, api.ErrRange},
		{frac.Mul, small(2, 3), small(3, 4), small(1, 2), api.OK},
		{frac.Mul, small(2, 3), small(0, 1), small(0, 1), api.OK},
		{frac.Mul, small(2, 3), small(3, 2), small(1, 1), api.OK},
		{frac.Div, small(1, 2), small(0, 1), api.Frac{}, api.ErrDivide},
		{frac.Div, small(0, 1), small(0, 1), api.Frac{}, api.ErrDivide},
		{frac.Div, small(0, 1), small(2, 3), small(0, 1), api.OK},
		{frac.Div, small(1, 2), small(3, 4), small(2, 3), api.OK},
		{frac.Div, small(3, 4), small(1, 2), small(3, 2), api.OK},
		{frac.Div, small(5, 7), small(5, 7), small(1, 1), api.OK},
	} {
		if f, e := c.call(c.f, c.g); !same(f, c.want) || e != c.e {
			t.Errorf("Example %d: %v, %v, not %v, %v", i, f, e, c.want, c.e)
		}
	}
}

// P4.3, P4.4: each product and sum that is too long is an error, also where only that one is, and where the result in lowest terms would be shorter; one that is just not too long is none.
func TestOverflow(t *testing.T) {
	one, half := power(0, 0), power(1024, 0)
	for i, c := range []struct {
		call         func(f, g api.Frac) (api.Frac, api.Errno)
		n, d, n2, d2 *big.Int
		want         outcome
	}{
		{frac.Add, power(2047, 0), one, one, wide(2), outcome{e: api.ErrOverflow}},
		{frac.Add, power(2047, -1), one, one, wide(2), outcome{value: ratio(power(2048, -1), wide(2))}},
		{frac.Add, one, wide(2), power(2047, 0), one, outcome{e: api.ErrOverflow}},
		{frac.Add, one, wide(2), power(2047, -1), one, outcome{value: ratio(power(2048, -1), wide(2))}},
		{frac.Add, one, half, one, half, outcome{e: api.ErrOverflow}},
		{frac.Add, one, half, one, power(1023, 0), outcome{value: ratio(wide(3), half)}},
		{frac.Add, greatest(), one, one, one, outcome{e: api.ErrOverflow}},
		{frac.Add, power(2048, -2), one, one, one, outcome{value: ratio(greatest(), one)}},
		{frac.Add, power(2047, 0), one, power(2047, 0), one, outcome{e: api.ErrOverflow}},
		{frac.Add, power(2046, 0), wide(3), power(2046, 0), wide(3), outcome{e: api.ErrOverflow}},
		{frac.Add, power(2045, 0), wide(3), power(2045, 0), wide(3), outcome{value: ratio(power(2046, 0), wide(3))}},
		{frac.Sub, power(2047, 0), one, one, wide(2), outcome{e: api.ErrOverflow}},
		{frac.Sub, power(2047, -1), one, one, wide(2), outcome{value: ratio(power(2048, -3), wide(2))}},
		{frac.Sub, one, half, one, half, outcome{e: api.ErrOverflow}},
		{frac.Sub, one, power(1023, 0), one, half, outcome{value: ratio(one, half)}},
		{frac.Sub, one, half, wide(0), one, outcome{value: ratio(one, half)}},
		{frac.Sub, one, power(1025, 0), one, half, outcome{e: api.ErrRange}},
		{frac.Sub, one, wide(2), power(2047, 0), one, outcome{e: api.ErrRange}},
		{frac.Sub, power(2048, -3), power(2048, -2), power(2048, -2), greatest(), outcome{e: api.ErrRange}},
		{frac.Sub, power(2048, -2), greatest(), power(2048, -3), power(2048, -2), outcome{e: api.ErrOverflow}},
		{frac.Sub, half, power(1024, 1), half, power(1024, 1), outcome{e: api.ErrOverflow}},
		{frac.Sub, half, power(1024, -1), half, power(1024, -1), outcome{value: new(big.Rat)}},
		{frac.Mul, half, one, half, one, outcome{e: api.ErrOverflow}},
		{frac.Mul, half, one, power(1023, 0), one, outcome{value: ratio(power(2047, 0), one)}},
		{frac.Mul, one, half, one, half, outcome{e: api.ErrOverflow}},
		{frac.Mul, one, half, one, power(1023, 0), outcome{value: ratio(one, power(2047, 0))}},
		{frac.Mul, wide(0), one, one, greatest(), outcome{value: new(big.Rat)}},
		{frac.Mul, power(1500, 0), wide(3), raise(3, 500), power(1000, 0), outcome{e: api.ErrOverflow}},
		{frac.Mul, wide(3), power(1500, 0), power(1000, 0), raise(3, 500), outcome{e: api.ErrOverflow}},
		{frac.Div, half, one, one, half, outcome{e: api.ErrOverflow}},
		{frac.Div, half, one, one, power(1023, 0), outcome{value: ratio(power(2047, 0), one)}},
		{frac.Div, one, half, half, one, outcome{e: api.ErrOverflow}},
		{frac.Div, one, half, power(1023, 0), one, outcome{value: ratio(one, power(2047, 0))}},
		{frac.Div, power(1500, 0), wide(3), power(1000, 0), raise(3, 500), outcome{e: api.ErrOverflow}},
		{frac.Div, wide(3), power(1500, 0), raise(3, 500), power(1000, 0), outcome{e: api.ErrOverflow}},
		{frac.Div, power(1500, 0), raise(3, 500), power(1500, 0), raise(3, 500), outcome{e: api.ErrOverflow}},
		{frac.Div, greatest(), one, greatest(), one, outcome{value: ratio(one, one)}},
		{frac.Div, greatest(), one, wide(0), one, outcome{e: api.ErrDivide}},
	} {
		f, e := c.call(parts(c.n, c.d), parts(c.n2, c.d2))
		if e != c.want.e {
			t.Errorf("Case %d: %v, not %v", i, e, c.want.e)
		}
		check(t, "a case", f, e, c.want)
	}
}

// P4.2 to P4.5: ErrRange comes before any other error, and no result comes with an error.
func TestOthers(t *testing.T) {
	all := append(others(), small(0, 1), small(1, 1), small(2, 3), of(ratio(greatest(), wide(1))), of(ratio(wide(1), greatest())))
	for _, bad := range others() {
		for _, f := range all {
			for _, c := range calculations() {
				if g, e := c.call(bad, f); e != api.ErrRange || !isNone(g) {
					t.Errorf("%s(%v, %v): %v, %v, not %v", c.name, bad, f, g, e, api.ErrRange)
				}
				if g, e := c.call(f, bad); e != api.ErrRange || !isNone(g) {
					t.Errorf("%s(%v, %v): %v, %v, not %v", c.name, f, bad, g, e, api.ErrRange)
				}
			}
		}
		for _, places := range []int{-1, 0, 1, 18, 19} {
			if s, e := frac.Decimal(bad, places); e != api.ErrRange || s != "" {
				t.Errorf("Decimal(%v, %d): %q, %v", bad, places, s, e)
			}
		}
	}
}

// P4.5
func TestDecimalExamples(t *testing.T) {
	for _, c := range []struct {
		f      api.Frac
		places int
		s      string
		e      api.Errno
	}{
		{small(2, 3), 4, "0.6666", api.OK},
		{small(7, 2), 0, "3", api.OK},
		{small(1, 8), 18, "0.125000000000000000", api.OK},
		{small(0, 1), 0, "0", api.OK},
		{small(0, 1), 1, "0.0", api.OK},
		{small(0, 1), 18, "0.000000000000000000", api.OK},
		{small(1, 1), 0, "1", api.OK},
		{small(1, 1), 3, "1.000", api.OK},
		{small(1, 2), 0, "0", api.OK},
		{small(999, 1000), 0, "0", api.OK},
		{small(999, 1000), 2, "0.99", api.OK},
		{small(1999, 1000), 2, "1.99", api.OK},
		{small(1, 100), 1, "0.0", api.OK},
		{small(1, 100), 2, "0.01", api.OK},
		{small(1, 100), 3, "0.010", api.OK},
		{small(10, 1), 1, "10.0", api.OK},
		{small(49, 6), 18, "8.166666666666666666", api.OK},
		{small(1, 13983816), 12, "0.000000071511", api.OK},
		{small(123456789, 1000), 6, "123456.789000", api.OK},
		{small(1, 2), -1, "", api.ErrRange},
		{small(1, 2), 19, "", api.ErrRange},
		{small(1, 2), 20, "", api.ErrRange},
		{small(0, 1), -1, "", api.ErrRange},
		{small(0, 1), 19, "", api.ErrRange},
		{small(1, 2), math.MinInt, "", api.ErrRange},
		{small(1, 2), math.MaxInt, "", api.ErrRange},
		{parts(greatest(), wide(1)), -1, "", api.ErrRange},
		{parts(greatest(), wide(1)), 19, "", api.ErrRange},
		{parts(greatest(), wide(1)), 18, "", api.ErrOverflow},
		{parts(greatest(), wide(1)), 1, "", api.ErrOverflow},
		{parts(greatest(), wide(1)), 0, greatest().String(), api.OK},
		{parts(greatest(), power(2048, -2)), 18, "", api.ErrOverflow},
		{parts(power(2048, -2), greatest()), 1, "", api.ErrOverflow},
		{parts(wide(1), greatest()), 18, "0.000000000000000000", api.OK},
	} {
		if s, e := frac.Decimal(c.f, c.places); s != c.s || e != c.e {
			t.Errorf("Decimal(%v, %d): %q, %v, not %q, %v", c.f, c.places, s, e, c.s, c.e)
		}
	}
}

// P4.5: at each number of places, of values of all sizes, and of the numerators around the first one that is too great.
func TestDecimal(t *testing.T) {
	values := edges()
	r := rand.New(rand.NewPCG(18, 19))
	for range 300 {
		values = append(values, anyValue(r, 1+r.IntN(most)), big.NewRat(r.Int64N(1000000), 1+r.Int64N(1000)))
	}
	for places := range 19 {
		fits := new(big.Int).Quo(greatest(), raise(10, places))
		exceeds := new(big.Int).Add(fits, wide(1))
		for _, d := range []*big.Int{wide(1), wide(7), wide(1000), power(61, -1), power(1279, -1)} {
			checkDecimal(t, ratio(fits, d), places)
			if places > 0 {
				checkDecimal(t, ratio(exceeds, d), places)
			}
		}
		for _, value := range values {
			checkDecimal(t, value, places)
		}
	}
}

func checkDecimal(t *testing.T, value *big.Rat, places int) {
	t.Helper()
	want, wantErr := "", api.ErrOverflow
	if scaled := times(value.Num(), raise(10, places)); scaled.Cmp(limit()) < 0 {
		whole, rest := new(big.Int).QuoRem(scaled.Quo(scaled, value.Denom()), raise(10, places), new(big.Int))
		want, wantErr = whole.String(), api.OK
		if places > 0 {
			digits := rest.String()
			want += "." + strings.Repeat("0", places-len(digits)) + digits
		}
	}
	if s, e := frac.Decimal(of(value), places); s != want || e != wantErr {
		t.Errorf("Decimal(%v, %d): %q, %v, not %q, %v", value, places, s, e, want, wantErr)
	}
}

// triples are values whose sums and products of three stay within the limit: all small ones, and some of up to 10 limbs.
func triples() [][3]api.Frac {
	var few []*big.Rat
	for _, p := range [][2]int64{{0, 1}, {1, 1}, {1, 2}, {2, 1}, {1, 3}, {2, 3}, {3, 2}, {5, 6}, {6, 49}, {7, 1}} {
		few = append(few, big.NewRat(p[0], p[1]))
	}
	var l [][3]api.Frac
	for _, f := range few {
		for _, g := range few {
			for _, h := range few {
				l = append(l, [3]api.Frac{of(f), of(g), of(h)})
			}
		}
	}
	r := rand.New(rand.NewPCG(6, 7))
	for range 500 {
		l = append(l, [3]api.Frac{of(anyValue(r, 10)), of(anyValue(r, 10)), of(anyValue(r, 10))})
	}
	return l
}

// calculator returns a calculation that must not fail.
func calculator(t *testing.T, call func(f, g api.Frac) (api.Frac, api.Errno)) func(f, g api.Frac) api.Frac {
	return func(f, g api.Frac) api.Frac {
		t.Helper()
		r, e := call(f, g)
		if e != api.OK || !frac.Valid(r) {
			t.Fatalf("Of %v and %v: %v, %v", f, g, r, e)
		}
		return r
	}
}

// P4.6, P4.8
func TestField(t *testing.T) {
	add, sub, mul, div := calculator(t, frac.Add), calculator(t, frac.Sub), calculator(t, frac.Mul), calculator(t, frac.Div)
	zero, one := small(0, 1), small(1, 1)
	for _, l := range triples() {
		f, g, h := l[0], l[1], l[2]
		for i, p := range [][2]api.Frac{
			{sub(add(f, g), g), f},
			{add(f, g), add(g, f)},
			{mul(f, g), mul(g, f)},
			{add(add(f, g), h), add(f, add(g, h))},
			{mul(mul(f, g), h), mul(f, mul(g, h))},
			{mul(add(f, g), h), add(mul(f, h), mul(g, h))},
			{add(f, zero), f},
			{add(zero, f), f},
			{sub(f, zero), f},
			{mul(f, one), f},
			{mul(one, f), f},
			{div(f, one), f},
		} {
			if !same(p[0], p[1]) {
				t.Errorf("Law %d of %v: %v, not %v", i, l, p[0], p[1])
			}
		}
		if !same(g, zero) && !same(div(mul(f, g), g), f) {
			t.Errorf("%v * %v / %v: %v", f, g, g, div(mul(f, g), g))
		}
	}
}

// P4.6: adding 0 and multiplying by 1 change nothing, and do not fail, however long a value is.
func TestNeutral(t *testing.T) {
	add, sub, mul, div := calculator(t, frac.Add), calculator(t, frac.Sub), calculator(t, frac.Mul), calculator(t, frac.Div)
	zero, one := small(0, 1), small(1, 1)
	for _, r := range edges() {
		f := of(r)
		for i, g := range []api.Frac{add(f, zero), add(zero, f), sub(f, zero), mul(f, one), mul(one, f), div(f, one)} {
			if !same(g, f) {
				t.Errorf("Law %d of %v: %v", i, r, g)
			}
		}
		if !same(mul(f, zero), zero) || !same(mul(zero, f), zero) {
			t.Errorf("%v * 0: %v, %v", r, mul(f, zero), mul(zero, f))
		}
	}
}

// P4.7
func TestOrder(t *testing.T) {
	add := calculator(t, frac.Add)
	for _, l := range triples() {
		f, g, h := l[0], l[1], l[2]
		if frac.Cmp(f, g) != frac.Cmp(add(f, h), add(g, h)) {
			t.Errorf("Cmp(%v, %v): %d, and with %v added %d", f, g, frac.Cmp(f, g), h, frac.Cmp(add(f, h), add(g, h)))
		}
	}
}

// P4.8: equal values have equal parts, and no others have.
func TestLowestTerms(t *testing.T) {
	for n := range 16 {
		for d := 1; d < 16; d++ {
			f, _ := frac.Of(n, d)
			for m := range 16 {
				for k := 1; k < 16; k++ {
					g, _ := frac.Of(m, k)
					if equal := n*k == m*d; same(f, g) != equal || frac.Cmp(f, g) == 0 != equal {
						t.Errorf("%d / %d is %v, %d / %d is %v", n, d, f, m, k, g)
					}
				}
			}
		}
	}
}

// spacious returns the Nat of n in a longer memory, which is filled with a pattern.
func spacious(n *big.Int) api.Nat {
	limbs := natOf(n).Limbs
	return api.Nat{Limbs: append(limbs, slices.Repeat([]uint32{77}, 2*most)...)[:len(limbs)]}
}

// callAll calls each function with f and g, and returns the parts of the results.
func callAll(f, g api.Frac) []api.Nat {
	frac.Valid(f)
	frac.Cmp(f, g)
	frac.Decimal(f, 5)
	made, _ := frac.Make(f.Num, f.Den)
	swapped, _ := frac.Make(f.Den, g.Den)
	l := []api.Nat{made.Num, made.Den, swapped.Num, swapped.Den}
	for _, c := range calculations() {
		r, _ := c.call(f, g)
		l = append(l, r.Num, r.Den)
	}
	return l
}

func checkKept(t *testing.T, a api.Nat, n *big.Int) {
	t.Helper()
	spare := a.Limbs[len(a.Limbs) : len(a.Limbs)+2*most]
	if !slices.Equal(a.Limbs, natOf(n).Limbs) || slices.ContainsFunc(spare, func(limb uint32) bool { return limb != 77 }) {
		t.Fatalf("An argument %v is now %v, and behind it %v", n, a.Limbs, spare)
	}
}

// checkNew overwrites each result, as far as its capacity goes, and looks whether another one changes.
func checkNew(t *testing.T, results []api.Nat) {
	t.Helper()
	for i, a := range results {
		before := make([][]uint32, len(results))
		for j, b := range results {
			before[j] = slices.Clone(b.Limbs)
		}
		memory := a.Limbs[:cap(a.Limbs)]
		for k := range memory {
			memory[k] = 1234567 + memory[k]/2
		}
		for j, b := range results {
			if j != i && !slices.Equal(b.Limbs, before[j]) {
				t.Fatalf("Results %d and %d share memory", i, j)
			}
		}
	}
}

// R3: arguments stay as they are, their spare capacity too, and results are new memory.
func TestMemory(t *testing.T) {
	for _, x := range edges() {
		for _, y := range []*big.Rat{new(big.Rat), big.NewRat(1, 1), big.NewRat(2, 3), big.NewRat(3, 1), ratio(power(700, 1), power(600, 0)), x} {
			f := api.Frac{Num: spacious(x.Num()), Den: spacious(x.Denom())}
			g := api.Frac{Num: spacious(y.Num()), Den: spacious(y.Denom())}
			results := callAll(f, g)
			for range 2 {
				checkKept(t, f.Num, x.Num())
				checkKept(t, f.Den, x.Denom())
				checkKept(t, g.Num, y.Num())
				checkKept(t, g.Den, y.Denom())
				checkNew(t, results)
			}
		}
	}
}

// R3: an empty list of limbs is the number 0, whether it is nil or not.
func TestEmpty(t *testing.T) {
	for _, none := range [][]uint32{nil, {}} {
		zero := api.Frac{Num: api.Nat{Limbs: none}, Den: natOf(wide(1))}
		if !frac.Valid(zero) || frac.Cmp(zero, small(1, 9)) != -1 || frac.Cmp(zero, small(0, 1)) != 0 {
			t.Errorf("A 0 with limbs %v is not valid, or not less than 1 / 9", none)
		}
		if frac.Valid(api.Frac{Num: zero.Den, Den: zero.Num}) {
			t.Errorf("1 / 0 with limbs %v is valid", none)
		}
		if f, e := frac.Make(zero.Num, zero.Num); e != api.ErrDivide || !isNone(f) {
			t.Errorf("0 / 0 with limbs %v: %v, %v", none, f, e)
		}
		if f, e := frac.Div(small(1, 2), zero); e != api.ErrDivide || !isNone(f) {
			t.Errorf("Division by 0 with limbs %v: %v, %v", none, f, e)
		}
	}
}

// R7: a call leaves nothing behind that a later one could observe.
func TestCallsDoNotDepend(t *testing.T) {
	f, g := of(ratio(power(900, -1), power(700, 9))), of(ratio(power(300, -1), power(200, 1)))
	first := callAll(f, g)
	callAll(g, f)
	callAll(others()[0], of(ratio(greatest(), wide(1))))
	for i, n := range callAll(f, g) {
		if !slices.Equal(n.Limbs, first[i].Limbs) {
			t.Errorf("Result %d: %v, then %v", i, first[i].Limbs, n.Limbs)
		}
	}
}
