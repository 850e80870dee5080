package nat_test

import (
	"math"
	"math/big"
	"math/rand/v2"
	"regexp"
	"slices"
	"strings"
	"testing"

	"lottery/api"
	"lottery/nat"
)

const most = api.MaxLimbs

// power returns 2^n + d.
func power(n uint, d int64) *big.Int {
	p := new(big.Int).Lsh(big.NewInt(1), n)
	return p.Add(p, big.NewInt(d))
}

// limit is the first number that is too great.
func limit() *big.Int {
	return power(32*most, 0)
}

// limbsOf returns the limbs of n by the definition, however many there are.
func limbsOf(n *big.Int) []uint32 {
	l := []uint32{}
	for rest := new(big.Int).Set(n); rest.Sign() > 0; rest.Rsh(rest, 32) {
		l = append(l, uint32(new(big.Int).And(rest, power(32, -1)).Uint64()))
	}
	return l
}

func natOf(n *big.Int) api.Nat {
	return api.Nat{Limbs: limbsOf(n)}
}

// wide returns the number of a by the definition.
func wide(a api.Nat) *big.Int {
	sum := new(big.Int)
	for i, limb := range a.Limbs {
		sum.Add(sum, new(big.Int).Lsh(big.NewInt(int64(limb)), uint(32*i)))
	}
	return sum
}

// same tells whether a is the valid Nat of n.
func same(a api.Nat, n *big.Int) bool {
	return slices.Equal(a.Limbs, limbsOf(n))
}

func isZero(a api.Nat) bool {
	return len(a.Limbs) == 0
}

// edges are numbers at which a carry, a borrow, a width or a count of limbs changes.
func edges() []*big.Int {
	l := []*big.Int{big.NewInt(0), big.NewInt(1), big.NewInt(2), big.NewInt(3), big.NewInt(10), big.NewInt(999999999), big.NewInt(1000000000), big.NewInt(1000000001)}
	for _, n := range []uint{16, 31, 32, 33, 63, 64, 65, 95, 96, 128, 992, 1023, 1024, 1025, 1056, 1984, 2016, 2047} {
		l = append(l, power(n, -1), power(n, 0), power(n, 1))
	}
	return append(l, new(big.Int).Sub(limit(), power(1024, 0)), new(big.Int).Sub(limit(), power(1024, -1)), power(2048, -2), power(2048, -1))
}

// anyLimb returns a limb that is often one at an edge.
func anyLimb(r *rand.Rand) uint32 {
	switch r.IntN(4) {
	case 0:
		return 0
	case 1:
		return math.MaxUint32 - uint32(r.IntN(2))
	case 2:
		return 1<<31 - 1 + uint32(r.IntN(3))
	}
	return r.Uint32() >> r.IntN(32)
}

// anyNumber returns a number of at most limbs limbs.
func anyNumber(r *rand.Rand, limbs int) *big.Int {
	l := make([]uint32, r.IntN(limbs+1))
	for i := range l {
		l[i] = anyLimb(r)
	}
	return wide(api.Nat{Limbs: l})
}

// pairs are all pairs of edges, and pairs of numbers of all sizes, the same in each run.
func pairs(count int) [][2]*big.Int {
	var l [][2]*big.Int
	for _, a := range edges() {
		for _, b := range edges() {
			l = append(l, [2]*big.Int{a, b})
		}
	}
	r := rand.New(rand.NewPCG(3, 5))
	for range count {
		a := anyNumber(r, 1+r.IntN(most))
		l = append(l, [2]*big.Int{a, anyNumber(r, 1+r.IntN(most))}, [2]*big.Int{a, anyNumber(r, len(limbsOf(a)))})
	}
	return l
}

// others are Nats that are not valid.
func others() []api.Nat {
	full := slices.Repeat([]uint32{math.MaxUint32}, 2000)
	return []api.Nat{
		{Limbs: []uint32{0}},
		{Limbs: []uint32{0, 0}},
		{Limbs: []uint32{1, 0}},
		{Limbs: []uint32{0, 1, 0}},
		{Limbs: []uint32{7, 7, 7, 0, 0}},
		{Limbs: make([]uint32, most-1)},
		{Limbs: make([]uint32, most)},
		{Limbs: make([]uint32, most+1)},
		{Limbs: append(slices.Clone(full[:most-1]), 0)},
		{Limbs: append(slices.Clone(full[:most]), 0)},
		{Limbs: append(make([]uint32, most), 1)},
		{Limbs: full[:most+1]},
		{Limbs: full[:2*most]},
		{Limbs: full},
	}
}

// P3.1
func TestOf(t *testing.T) {
	for _, c := range []struct {
		n     uint64
		limbs []uint32
	}{
		{0, nil},
		{1, []uint32{1}},
		{70, []uint32{70}},
		{1<<31 - 1, []uint32{1<<31 - 1}},
		{1 << 31, []uint32{1 << 31}},
		{1<<32 - 1, []uint32{math.MaxUint32}},
		{1 << 32, []uint32{0, 1}},
		{1<<32 + 1, []uint32{1, 1}},
		{5 << 32, []uint32{0, 5}},
		{0x123456789ABCDEF0, []uint32{0x9ABCDEF0, 0x12345678}},
		{1 << 63, []uint32{0, 1 << 31}},
		{math.MaxUint64 - 1, []uint32{math.MaxUint32 - 1, math.MaxUint32}},
		{math.MaxUint64, []uint32{math.MaxUint32, math.MaxUint32}},
	} {
		a := nat.Of(c.n)
		if !slices.Equal(a.Limbs, c.limbs) || !nat.Valid(a) {
			t.Errorf("Of(%d): %v, not %v", c.n, a.Limbs, c.limbs)
		}
	}
}

// P3.1
func TestValid(t *testing.T) {
	for _, a := range []api.Nat{
		{}, {Limbs: []uint32{}}, {Limbs: []uint32{1}}, {Limbs: []uint32{0, 1}}, {Limbs: []uint32{0, 0, 0, 1 << 31}},
		{Limbs: append(make([]uint32, most-1), 1)}, {Limbs: slices.Repeat([]uint32{math.MaxUint32}, most)},
	} {
		if !nat.Valid(a) {
			t.Errorf("Valid(%v): false", a.Limbs)
		}
	}
	for _, a := range others() {
		if nat.Valid(a) {
			t.Errorf("Valid(%v): true", a.Limbs)
		}
	}
}

// P3.1
func TestCmp(t *testing.T) {
	for _, p := range pairs(1000) {
		a, b := natOf(p[0]), natOf(p[1])
		if got := nat.Cmp(a, b); got != p[0].Cmp(p[1]) {
			t.Errorf("Cmp(%v, %v): %d", p[0], p[1], got)
		}
		if nat.Cmp(a, a) != 0 {
			t.Errorf("Cmp of %v with itself: %d", p[0], nat.Cmp(a, a))
		}
	}
	for _, bad := range others() {
		for _, n := range edges() {
			if nat.Cmp(bad, natOf(n)) != 0 || nat.Cmp(natOf(n), bad) != 0 || nat.Cmp(bad, bad) != 0 {
				t.Errorf("Cmp of %v and %v is not 0", bad.Limbs, n)
			}
		}
	}
}

// P3.1: numbers that differ in one limb only, whichever it is.
func TestCmpOfLimbs(t *testing.T) {
	for at := range most {
		less := slices.Repeat([]uint32{5}, most)
		more := slices.Clone(less)
		less[at], more[at] = 1<<31-1, 1<<31
		// The limbs below count for less than this one.
		if at > 0 {
			less[0] = math.MaxUint32
		}
		a, b := api.Nat{Limbs: less}, api.Nat{Limbs: more}
		if nat.Cmp(a, b) != -1 || nat.Cmp(b, a) != 1 {
			t.Errorf("Limb %d: %d, %d", at, nat.Cmp(a, b), nat.Cmp(b, a))
		}
	}
}

// P3.1
func TestUint(t *testing.T) {
	for _, n := range edges() {
		got, ok := nat.Uint(natOf(n))
		if ok != n.IsUint64() || ok && got != n.Uint64() || !ok && got != 0 {
			t.Errorf("Uint(%v): %d, %t", n, got, ok)
		}
	}
	for _, n := range []uint64{0, 1, 1 << 32, 0x123456789ABCDEF0, math.MaxUint64} {
		if got, ok := nat.Uint(nat.Of(n)); got != n || !ok {
			t.Errorf("Uint(Of(%d)): %d, %t", n, got, ok)
		}
	}
	for _, bad := range others() {
		if got, ok := nat.Uint(bad); got != 0 || ok {
			t.Errorf("Uint(%v): %d, %t", bad.Limbs, got, ok)
		}
	}
}

// P3.2, P3.3, with the sums, differences and products around 2^2048 written out.
func TestAddSubMulExamples(t *testing.T) {
	for _, c := range []struct {
		name    string
		call    func(a, b api.Nat) (api.Nat, api.Errno)
		a, b, n *big.Int
		e       api.Errno
	}{
		{"Add", nat.Add, power(32, -1), big.NewInt(1), power(32, 0), api.OK},
		{"Add", nat.Add, big.NewInt(0), big.NewInt(0), big.NewInt(0), api.OK},
		{"Add", nat.Add, power(1024, -1), big.NewInt(1), power(1024, 0), api.OK},
		{"Add", nat.Add, power(2048, -2), big.NewInt(1), power(2048, -1), api.OK},
		{"Add", nat.Add, power(2048, -1), big.NewInt(0), power(2048, -1), api.OK},
		{"Add", nat.Add, power(2047, 0), power(2047, -1), power(2048, -1), api.OK},
		{"Add", nat.Add, power(2048, -1), big.NewInt(1), nil, api.ErrOverflow},
		{"Add", nat.Add, big.NewInt(1), power(2048, -1), nil, api.ErrOverflow},
		{"Add", nat.Add, power(2047, 0), power(2047, 0), nil, api.ErrOverflow},
		{"Add", nat.Add, power(2048, -1), power(2048, -1), nil, api.ErrOverflow},
		{"Sub", nat.Sub, power(32, 0), big.NewInt(1), power(32, -1), api.OK},
		{"Sub", nat.Sub, power(2047, 0), big.NewInt(1), power(2047, -1), api.OK},
		{"Sub", nat.Sub, power(2048, -1), power(2048, -1), big.NewInt(0), api.OK},
		{"Sub", nat.Sub, power(2048, -1), power(2048, -2), big.NewInt(1), api.OK},
		{"Sub", nat.Sub, big.NewInt(0), big.NewInt(0), big.NewInt(0), api.OK},
		{"Sub", nat.Sub, big.NewInt(0), big.NewInt(1), nil, api.ErrRange},
		{"Sub", nat.Sub, big.NewInt(6), big.NewInt(7), nil, api.ErrRange},
		{"Sub", nat.Sub, power(32, -1), power(32, 0), nil, api.ErrRange},
		{"Sub", nat.Sub, power(64, 5), power(65, 0), nil, api.ErrRange},
		{"Sub", nat.Sub, power(2048, -2), power(2048, -1), nil, api.ErrRange},
		{"Mul", nat.Mul, power(32, -1), power(32, -1), new(big.Int).Sub(power(64, 1), power(33, 0)), api.OK},
		{"Mul", nat.Mul, power(1024, 0), power(1023, 0), power(2047, 0), api.OK},
		{"Mul", nat.Mul, power(1024, -1), power(1024, 1), power(2048, -1), api.OK},
		{"Mul", nat.Mul, power(2048, -1), big.NewInt(1), power(2048, -1), api.OK},
		{"Mul", nat.Mul, power(2048, -1), big.NewInt(0), big.NewInt(0), api.OK},
		{"Mul", nat.Mul, big.NewInt(0), power(2048, -1), big.NewInt(0), api.OK},
		{"Mul", nat.Mul, big.NewInt(0), big.NewInt(0), big.NewInt(0), api.OK},
		{"Mul", nat.Mul, power(1024, 0), power(1024, 0), nil, api.ErrOverflow},
		{"Mul", nat.Mul, power(2047, 0), big.NewInt(2), nil, api.ErrOverflow},
		{"Mul", nat.Mul, big.NewInt(2), power(2047, 0), nil, api.ErrOverflow},
		{"Mul", nat.Mul, power(2016, 0), power(32, 0), nil, api.ErrOverflow},
		{"Mul", nat.Mul, power(2048, -1), power(2048, -1), nil, api.ErrOverflow},
	} {
		n, e := c.call(natOf(c.a), natOf(c.b))
		if e != c.e || c.n != nil && !same(n, c.n) || c.n == nil && !isZero(n) {
			t.Errorf("%s(%v, %v): %v, %v, not %v, %v", c.name, c.a, c.b, n.Limbs, e, c.n, c.e)
		}
	}
}

// P3.2, P3.3
func TestAddSubMul(t *testing.T) {
	for _, p := range pairs(3000) {
		a, b := natOf(p[0]), natOf(p[1])
		sum, e := nat.Add(a, b)
		checkExact(t, "Add", p, sum, e, new(big.Int).Add(p[0], p[1]))
		difference, e := nat.Sub(a, b)
		checkExact(t, "Sub", p, difference, e, new(big.Int).Sub(p[0], p[1]))
		product, e := nat.Mul(a, b)
		checkExact(t, "Mul", p, product, e, new(big.Int).Mul(p[0], p[1]))
	}
}

// checkExact compares a result with the exact one: below 0 it is out of range, and from 2^2048 on an overflow.
func checkExact(t *testing.T, name string, p [2]*big.Int, n api.Nat, e api.Errno, exact *big.Int) {
	t.Helper()
	want, wantErr := exact, api.OK
	if exact.Sign() < 0 {
		want, wantErr = new(big.Int), api.ErrRange
	}
	if exact.Cmp(limit()) >= 0 {
		want, wantErr = new(big.Int), api.ErrOverflow
	}
	if e != wantErr || !same(n, want) {
		t.Errorf("%s(%v, %v): %v, %v, not %v, %v", name, p[0], p[1], n.Limbs, e, want, wantErr)
	}
}

// P3.2: the difference of a sum and one of its terms is the other term.
func TestSubOfSum(t *testing.T) {
	for _, p := range pairs(1000) {
		a, b := natOf(p[0]), natOf(p[1])
		sum, e := nat.Add(a, b)
		if e != api.OK {
			continue
		}
		first, e := nat.Sub(sum, b)
		second, e2 := nat.Sub(sum, a)
		if e != api.OK || e2 != api.OK || nat.Cmp(first, a) != 0 || nat.Cmp(second, b) != 0 {
			t.Errorf("The sum of %v and %v: %v, %v less the other one", p[0], p[1], wide(first), wide(second))
		}
	}
}

// P3.3: products distribute over sums, and do not depend on the order.
func TestProducts(t *testing.T) {
	r := rand.New(rand.NewPCG(8, 13))
	for range 2000 {
		a, b, c := natOf(anyNumber(r, 30)), natOf(anyNumber(r, 30)), natOf(anyNumber(r, 30))
		sum, e := nat.Add(a, b)
		whole, e2 := nat.Mul(sum, c)
		first, e3 := nat.Mul(a, c)
		second, e4 := nat.Mul(b, c)
		parts, e5 := nat.Add(first, second)
		if e != api.OK || e2 != api.OK || e3 != api.OK || e4 != api.OK || e5 != api.OK || !slices.Equal(whole.Limbs, parts.Limbs) {
			t.Errorf("(%v + %v) * %v: %v, not %v", wide(a), wide(b), wide(c), wide(whole), wide(parts))
		}
		if again, e := nat.Mul(c, a); e != api.OK || !slices.Equal(first.Limbs, again.Limbs) {
			t.Errorf("%v * %v: %v, or %v", wide(a), wide(c), wide(first), wide(again))
		}
	}
}

// P3.4
func TestDivModExamples(t *testing.T) {
	for _, c := range []struct{ a, b, q, r *big.Int }{
		{big.NewInt(1000000), big.NewInt(70), big.NewInt(14285), big.NewInt(50)},
		{big.NewInt(0), big.NewInt(1), big.NewInt(0), big.NewInt(0)},
		{big.NewInt(0), power(2048, -1), big.NewInt(0), big.NewInt(0)},
		{big.NewInt(6), big.NewInt(7), big.NewInt(0), big.NewInt(6)},
		{big.NewInt(7), big.NewInt(7), big.NewInt(1), big.NewInt(0)},
		{power(64, 0), power(32, 0), power(32, 0), big.NewInt(0)},
		{power(64, -1), power(32, 1), power(32, -1), big.NewInt(0)},
		{power(64, -1), power(32, 0), power(32, -1), power(32, -1)},
		{power(2048, -1), big.NewInt(1), power(2048, -1), big.NewInt(0)},
		{power(2048, -1), power(2048, -1), big.NewInt(1), big.NewInt(0)},
		{power(2048, -2), power(2048, -1), big.NewInt(0), power(2048, -2)},
		{power(2048, -1), power(1024, -1), power(1024, 1), big.NewInt(0)},
		{power(2048, -1), power(1024, 0), power(1024, -1), power(1024, -1)},
		{power(2047, 0), big.NewInt(2), power(2046, 0), big.NewInt(0)},
	} {
		q, r, e := nat.DivMod(natOf(c.a), natOf(c.b))
		if e != api.OK || !same(q, c.q) || !same(r, c.r) {
			t.Errorf("DivMod(%v, %v): %v, %v, %v, not %v, %v", c.a, c.b, wide(q), wide(r), e, c.q, c.r)
		}
	}
}

// P3.4
func TestDivMod(t *testing.T) {
	for _, p := range pairs(5000) {
		checkDivMod(t, p[0], p[1])
	}
}

// P3.4: limbs at the edges, with which a digit of the quotient is estimated least well.
func TestDivModOfEdges(t *testing.T) {
	lists := [][]uint32{nil}
	for range 4 {
		var longer [][]uint32
		for _, l := range lists {
			for _, limb := range []uint32{0, 1, 1<<31 - 1, 1 << 31, 1<<31 + 1, math.MaxUint32 - 1, math.MaxUint32} {
				longer = append(longer, append(slices.Clone(l), limb))
			}
		}
		lists = longer
		for _, l := range lists {
			a := wide(api.Nat{Limbs: l})
			for _, high := range []uint32{1, 2, 1<<31 - 1, 1 << 31, 1<<31 + 1, math.MaxUint32} {
				for _, middle := range []uint32{0, 1, 1 << 31, math.MaxUint32 - 1, math.MaxUint32} {
					checkDivMod(t, a, wide(api.Nat{Limbs: []uint32{middle, high}}))
					checkDivMod(t, a, wide(api.Nat{Limbs: []uint32{math.MaxUint32, middle, high}}))
				}
			}
		}
	}
}

// P3.4: multiples of a divisor, and the numbers beside them.
func TestDivModOfMultiples(t *testing.T) {
	r := rand.New(rand.NewPCG(21, 34))
	for range 2000 {
		b, times := anyNumber(r, 1+r.IntN(40)), anyNumber(r, 1+r.IntN(23))
		multiple := new(big.Int).Mul(b, times)
		checkDivMod(t, multiple, b)
		checkDivMod(t, new(big.Int).Add(multiple, big.NewInt(1)), b)
		if multiple.Sign() > 0 {
			checkDivMod(t, new(big.Int).Sub(multiple, big.NewInt(1)), b)
		}
	}
}

// checkDivMod compares DivMod with big numbers, and with the promise itself.
func checkDivMod(t *testing.T, a, b *big.Int) {
	t.Helper()
	q, r, e := nat.DivMod(natOf(a), natOf(b))
	if b.Sign() == 0 {
		if e != api.ErrDivide || !isZero(q) || !isZero(r) {
			t.Errorf("DivMod(%v, 0): %v, %v, %v", a, q.Limbs, r.Limbs, e)
		}
		return
	}
	quotient, remainder := new(big.Int).QuoRem(a, b, new(big.Int))
	if e != api.OK || !same(q, quotient) || !same(r, remainder) {
		t.Fatalf("DivMod(%v, %v): %v, %v, %v, not %v, %v", a, b, wide(q), wide(r), e, quotient, remainder)
	}
	again, e := nat.Mul(q, natOf(b))
	again, e2 := nat.Add(again, r)
	if e != api.OK || e2 != api.OK || nat.Cmp(r, natOf(b)) != -1 || nat.Cmp(again, natOf(a)) != 0 {
		t.Fatalf("DivMod(%v, %v): %v, %v", a, b, wide(q), wide(r))
	}
}

// P3.5
func TestGCDExamples(t *testing.T) {
	for _, c := range [][3]*big.Int{
		{big.NewInt(84), big.NewInt(36), big.NewInt(12)},
		{big.NewInt(36), big.NewInt(84), big.NewInt(12)},
		{big.NewInt(0), big.NewInt(0), big.NewInt(0)},
		{big.NewInt(0), big.NewInt(5), big.NewInt(5)},
		{big.NewInt(5), big.NewInt(0), big.NewInt(5)},
		{big.NewInt(0), power(2048, -1), power(2048, -1)},
		{power(2048, -1), big.NewInt(0), power(2048, -1)},
		{power(2048, -1), power(2048, -1), power(2048, -1)},
		{power(2048, -1), power(2048, -2), big.NewInt(1)},
		{power(2048, -1), big.NewInt(1), big.NewInt(1)},
		{power(2048, -1), power(1024, 1), power(1024, 1)},
		{power(2047, 0), power(1000, 0), power(1000, 0)},
		{power(64, -1), power(32, -1), power(32, -1)},
		{big.NewInt(17), big.NewInt(5), big.NewInt(1)},
	} {
		if d, e := nat.GCD(natOf(c[0]), natOf(c[1])); e != api.OK || !same(d, c[2]) {
			t.Errorf("GCD(%v, %v): %v, %v, not %v", c[0], c[1], wide(d), e, c[2])
		}
	}
}

// P3.5
func TestGCD(t *testing.T) {
	list := pairs(300)
	r := rand.New(rand.NewPCG(55, 89))
	for range 500 {
		common := anyNumber(r, 1+r.IntN(32))
		list = append(list, [2]*big.Int{new(big.Int).Mul(common, anyNumber(r, 32)), new(big.Int).Mul(common, anyNumber(r, 32))})
	}
	// Two neighbours in Fibonacci's sequence, of 2047 bits, take the most divisions.
	old, young := big.NewInt(1), big.NewInt(1)
	for young.BitLen() < 2047 {
		old, young = young, new(big.Int).Add(old, young)
	}
	for _, p := range append(list, [2]*big.Int{young, old}, [2]*big.Int{old, young}) {
		d, e := nat.GCD(natOf(p[0]), natOf(p[1]))
		if want := new(big.Int).GCD(nil, nil, p[0], p[1]); e != api.OK || !same(d, want) {
			t.Fatalf("GCD(%v, %v): %v, %v, not %v", p[0], p[1], wide(d), e, want)
		}
	}
}

// P3.5: of all small numbers, by the definition.
func TestGCDOfSmallNumbers(t *testing.T) {
	for a := range 60 {
		for b := range 60 {
			d, e := nat.GCD(nat.Of(uint64(a)), nat.Of(uint64(b)))
			n, ok := nat.Uint(d)
			if e != api.OK || !ok || n == 0 && a+b > 0 || n > 0 && (a%int(n) != 0 || b%int(n) != 0) {
				t.Fatalf("GCD(%d, %d): %d, %v", a, b, n, e)
			}
			for common := 1; common < 60; common++ {
				if a%common == 0 && b%common == 0 && int(n)%common != 0 {
					t.Errorf("GCD(%d, %d): %d, which %d does not divide", a, b, n, common)
				}
			}
		}
	}
}

// P3.1 to P3.5: ErrRange comes before any other error, and no result comes with an error.
func TestOthers(t *testing.T) {
	calls := map[string]func(a, b api.Nat) (api.Nat, api.Errno){
		"Add": nat.Add, "Sub": nat.Sub, "Mul": nat.Mul, "GCD": nat.GCD,
		"DivMod, quotient":  func(a, b api.Nat) (api.Nat, api.Errno) { q, _, e := nat.DivMod(a, b); return q, e },
		"DivMod, remainder": func(a, b api.Nat) (api.Nat, api.Errno) { _, r, e := nat.DivMod(a, b); return r, e },
	}
	all := others()
	for _, n := range edges() {
		all = append(all, natOf(n))
	}
	for name, call := range calls {
		for _, bad := range others() {
			for _, a := range all {
				if n, e := call(bad, a); e != api.ErrRange || !isZero(n) {
					t.Errorf("%s(%v, %v): %v, %v, not %v", name, bad.Limbs, a.Limbs, n.Limbs, e, api.ErrRange)
				}
				if n, e := call(a, bad); e != api.ErrRange || !isZero(n) {
					t.Errorf("%s(%v, %v): %v, %v, not %v", name, a.Limbs, bad.Limbs, n.Limbs, e, api.ErrRange)
				}
			}
		}
	}
	for _, bad := range others() {
		if s := nat.Format(bad); s != "" {
			t.Errorf("Format(%v): %q, not empty", bad.Limbs, s)
		}
	}
}

// P3.6: each number has one text.
func TestRoundTripOfNumbers(t *testing.T) {
	list := edges()
	ten := big.NewInt(10)
	for n := new(big.Int).Set(ten); n.Cmp(limit()) < 0; n = new(big.Int).Mul(n, ten) {
		list = append(list, new(big.Int).Sub(n, big.NewInt(1)), n, new(big.Int).Add(n, big.NewInt(1)))
	}
	r := rand.New(rand.NewPCG(144, 233))
	for n := range 1000 {
		list = append(list, big.NewInt(int64(n)), anyNumber(r, most))
	}
	for _, n := range list {
		s := nat.Format(natOf(n))
		if s != n.String() {
			t.Errorf("Format(%v): %q", n, s)
		}
		if again, e := nat.Parse(n.String()); e != api.OK || !same(again, n) {
			t.Errorf("Parse(%v): %v, %v", n, wide(again), e)
		}
	}
}

// P3.6: the errors, each before those that the chapter names after it.
func TestParseErrors(t *testing.T) {
	nines, zeros := strings.Repeat("9", 1000), strings.Repeat("0", 1000)
	greatest := power(2048, -1).String()
	for e, texts := range map[api.Errno][]string{
		api.ErrLimit: {
			nines[:621], zeros[:621], nines, zeros, "1" + zeros[:620], "0" + nines[:620], "-" + nines[:620], " " + greatest + "   " + nines[:100],
			strings.Repeat(" ", 621), strings.Repeat("x", 621), nines[:620] + "x", strings.Repeat("\u0661", 311), strings.Repeat("7", 1<<20),
		},
		api.ErrSyntax: {
			"", "00", "01", "000", "007", "-0", "-1", "+1", "+0", "-", "+", " ", " 1", "1 ", "1\n", "\n1", "1 2", "1.0", "1,000", "1_000", "1e3", "0x1", "x", "1x", "x1", "12x45",
			"/", ":", "1/", "1:", "/1", ":1", "1234567890123/", "1234567890123:", "1\x00", "\x00", "\x001", "\xff", "1\xff", "\u0661", "1\u0661", "\uff11", "1\ufeff",
			"0" + nines[:619], zeros[:620], "0" + greatest, "00" + greatest, nines[:619] + "x", "x" + nines[:619], nines[:300] + "-" + nines[:319], "-" + nines[:619], " " + nines[:619],
			strings.Repeat("\u0661", 310), strings.Repeat(" ", 620),
		},
		api.ErrOverflow: {
			nines[:620], nines[:619], nines[:618], nines[:617], "1" + zeros[:619], "1" + zeros[:617], limit().String(), power(2048, 1).String(), power(2049, 0).String(),
			new(big.Int).Mul(limit(), big.NewInt(10)).String(), new(big.Int).Mul(limit(), big.NewInt(1000)).String(),
		},
	} {
		for _, s := range texts {
			if n, got := nat.Parse(s); got != e || !isZero(n) {
				t.Errorf("Parse(%.40q) of %d bytes: %v, %v, not %v", s, len(s), n.Limbs, got, e)
			}
		}
	}
	for _, s := range []string{greatest, power(2048, -2).String(), nines[:616], "1" + zeros[:616]} {
		if n, e := nat.Parse(s); e != api.OK || wide(n).String() != s {
			t.Errorf("Parse(%s): %v, %v", s, wide(n), e)
		}
	}
}

// P3.6: of all short texts, those are accepted that have the form of a number, and Format gives them back.
func TestRoundTripOfTexts(t *testing.T) {
	form := regexp.MustCompile(`^(0|[1-9][0-9]*)$`)
	all, last := []string{""}, []string{""}
	for range 5 {
		var next []string
		for _, s := range last {
			for _, c := range "0159-+. /:" {
				next = append(next, s+string(c))
			}
		}
		all, last = append(all, next...), next
	}
	for _, s := range all {
		n, e := nat.Parse(s)
		if form.MatchString(s) {
			if e != api.OK || nat.Format(n) != s {
				t.Errorf("Format(Parse(%q)): %q, %v", s, nat.Format(n), e)
			}
		} else if e != api.ErrSyntax || !isZero(n) {
			t.Errorf("Parse(%q): %v, %v", s, n.Limbs, e)
		}
	}
}

// R3: arguments stay as they are, their spare capacity too, and results are new memory.
func TestMemory(t *testing.T) {
	numbers := []*big.Int{big.NewInt(0), big.NewInt(7), power(32, -1), power(64, 0), power(96, 5), power(1024, 3), power(2000, -1)}
	for _, x := range numbers {
		for _, y := range numbers {
			a, b := spacious(x), spacious(y)
			results := callAll(a, b)
			checkKept(t, a, x)
			checkKept(t, b, y)
			checkNew(t, results)
			checkKept(t, a, x)
			checkKept(t, b, y)
		}
	}
}

// spacious returns the Nat of n in a longer memory, which is filled with a pattern.
func spacious(n *big.Int) api.Nat {
	l := limbsOf(n)
	return api.Nat{Limbs: append(l, slices.Repeat([]uint32{77}, 2*most)...)[:len(l)]}
}

func callAll(a, b api.Nat) []api.Nat {
	nat.Valid(a)
	nat.Cmp(a, b)
	nat.Uint(a)
	nat.Format(a)
	sum, _ := nat.Add(a, b)
	difference, _ := nat.Sub(a, b)
	product, _ := nat.Mul(a, b)
	quotient, remainder, _ := nat.DivMod(a, b)
	divisor, _ := nat.GCD(a, b)
	return []api.Nat{sum, difference, product, quotient, remainder, divisor}
}

func checkKept(t *testing.T, a api.Nat, n *big.Int) {
	t.Helper()
	spare := a.Limbs[len(a.Limbs) : len(a.Limbs)+2*most]
	if !same(a, n) || slices.ContainsFunc(spare, func(limb uint32) bool { return limb != 77 }) {
		t.Fatalf("An argument %v is now %v, and behind it %v", n, a.Limbs, spare)
	}
}

// checkNew overwrites each result, as far as its capacity goes, and looks whether another one changes.
func checkNew(t *testing.T, results []api.Nat) {
	t.Helper()
	for i, a := range results {
		before := make([][]uint32, len(results))
		for j, b := range results {
			before[j] = slices.Clone(b.Limbs)
		}
		memory := a.Limbs[:cap(a.Limbs)]
		for k := range memory {
			memory[k] = 1234567 + memory[k]/2
		}
		for j, b := range results {
			if j != i && !slices.Equal(b.Limbs, before[j]) {
				t.Fatalf("Results %d and %d share memory", i, j)
			}
		}
	}
}

// R7: a call leaves nothing behind that a later one could observe.
func TestCallsDoNotDepend(t *testing.T) {
	a, b := natOf(power(1500, -1)), natOf(power(700, 9))
	first := callAll(a, b)
	kept := make([][]uint32, len(first))
	for i, n := range first {
		kept[i] = slices.Clone(n.Limbs)
	}
	callAll(b, a)
	nat.Parse(strings.Repeat("8", 600))
	for i, n := range callAll(a, b) {
		if !slices.Equal(n.Limbs, kept[i]) || !slices.Equal(first[i].Limbs, kept[i]) {
			t.Errorf("Result %d: %v, then %v", i, kept[i], n.Limbs)
		}
	}
}
