package money_test

import (
	"math"
	"math/big"
	"math/rand/v2"
	"regexp"
	"slices"
	"sort"
	"strconv"
	"strings"
	"testing"

	"lottery/api"
	"lottery/money"
)

// amounts are amounts at the edges and of all sizes, the same in each run.
func amounts(count int) []int {
	l := []int{0, 1, 2, 3, 5, 9, 10, 11, 99, 100, 101, 999, 1000, 1234, 9999, 10000, 10001, 1<<31 - 1, 1 << 32, 999999999999, api.MaxMoney - 99, api.MaxMoney - 1, api.MaxMoney}
	r := rand.New(rand.NewPCG(2, 3))
	for range count {
		l = append(l, r.IntN(api.MaxMoney+1)>>r.IntN(40))
	}
	return l
}

// others are ints that are not amounts.
func others() []int {
	return []int{-1, -2, -100, -api.MaxMoney, math.MinInt, math.MinInt + 1, api.MaxMoney + 1, api.MaxMoney + 100, 2 * api.MaxMoney, 1 << 62, math.MaxInt}
}

// P2.1
func TestValid(t *testing.T) {
	for _, m := range amounts(200) {
		if !money.Valid(m) {
			t.Errorf("Valid(%d): false", m)
		}
	}
	for _, m := range others() {
		if money.Valid(m) {
			t.Errorf("Valid(%d): true", m)
		}
	}
}

// P2.1
func TestSum(t *testing.T) {
	const most = api.MaxMoney
	for _, c := range []struct {
		l   []int
		sum int
		e   api.Errno
	}{
		{nil, 0, api.OK},
		{[]int{}, 0, api.OK},
		{[]int{0}, 0, api.OK},
		{[]int{most}, most, api.OK},
		{[]int{1, 20, 300}, 321, api.OK},
		{[]int{most - 1, 1}, most, api.OK},
		{[]int{0, most, 0}, most, api.OK},
		{[]int{most, 1}, 0, api.ErrOverflow},
		{[]int{1, most}, 0, api.ErrOverflow},
		{[]int{most / 2, most / 2, 1}, 0, api.ErrOverflow},
		{[]int{most, most, most}, 0, api.ErrOverflow},
		{[]int{-1}, 0, api.ErrRange},
		{[]int{most + 1}, 0, api.ErrRange},
		{[]int{1, -1}, 0, api.ErrRange},
		{[]int{5, -1, 5}, 0, api.ErrRange},
		{[]int{most, 1, -1}, 0, api.ErrRange},
		{[]int{most, most, 0, most + 1}, 0, api.ErrRange},
		{[]int{math.MaxInt, math.MaxInt}, 0, api.ErrRange},
		{[]int{math.MinInt, math.MinInt}, 0, api.ErrRange},
	} {
		if sum, e := money.Sum(c.l); sum != c.sum || e != c.e {
			t.Errorf("Sum(%v): %d, %v, not %d, %v", c.l, sum, e, c.sum, c.e)
		}
	}
	for _, m := range others() {
		for at := range 4 {
			l := slices.Insert([]int{most, most, 0}, at, m)
			if sum, e := money.Sum(l); sum != 0 || e != api.ErrRange {
				t.Errorf("Sum(%v): %d, %v, not %v", l, sum, e, api.ErrRange)
			}
		}
	}
}

// P2.1, R8: the sum of these amounts is 2^64, which would be 0 if it wrapped around.
func TestSumOfLongList(t *testing.T) {
	l := slices.Repeat([]int{api.MaxMoney}, 18446745)
	l[7] = 73709551616
	if sum, e := money.Sum(l); sum != 0 || e != api.ErrOverflow {
		t.Errorf("Sum of %d amounts: %d, %v", len(l), sum, e)
	}
	if sum, e := money.Sum(slices.Repeat([]int{1}, 100000)); sum != 100000 || e != api.OK {
		t.Errorf("Sum of 100000 units: %d, %v", sum, e)
	}
}

// P2.2
func TestPart(t *testing.T) {
	for _, c := range []struct {
		m, bp, part int
		e           api.Errno
	}{
		{999, 1000, 99, api.OK},
		{0, 0, 0, api.OK},
		{0, api.Whole, 0, api.OK},
		{api.MaxMoney, 0, 0, api.OK},
		{1, 9999, 0, api.OK},
		{1, api.Whole, 1, api.OK},
		{9999, 1, 0, api.OK},
		{10000, 1, 1, api.OK},
		{19999, 1, 1, api.OK},
		{7, 5000, 3, api.OK},
		{api.MaxMoney, 1, 100000000, api.OK},
		{api.MaxMoney - 1, 9999, 999899999999, api.OK},
		{999999990001, 9999, 999899990001, api.OK}, // a float rounds this product up to a multiple of 10000
		{api.MaxMoney, api.Whole, api.MaxMoney, api.OK},
		{1, -1, 0, api.ErrRange},
		{1, 10001, 0, api.ErrRange},
		{0, -1, 0, api.ErrRange},
		{0, 10001, 0, api.ErrRange},
		{1, math.MinInt, 0, api.ErrRange},
		{1, math.MaxInt, 0, api.ErrRange},
		{1, 1 << 32, 0, api.ErrRange},
	} {
		if part, e := money.Part(c.m, c.bp); part != c.part || e != c.e {
			t.Errorf("Part(%d, %d): %d, %v, not %d, %v", c.m, c.bp, part, e, c.part, c.e)
		}
	}
	for _, m := range others() {
		for _, bp := range []int{-1, 0, 1, api.Whole, api.Whole + 1} {
			if part, e := money.Part(m, bp); part != 0 || e != api.ErrRange {
				t.Errorf("Part(%d, %d): %d, %v, not %v", m, bp, part, e, api.ErrRange)
			}
		}
	}
}

// P2.2, P2.6: the part is m * bp / 10000, and grows with the amount and with the basis points.
func TestPartGrows(t *testing.T) {
	points := []int{0, 1, 2, 3, 50, 99, 333, 1000, 2500, 4999, 5000, 5001, 6667, 9998, 9999, api.Whole}
	l := amounts(500)
	slices.Sort(l)
	for i, m := range l {
		for j, bp := range points {
			part, e := money.Part(m, bp)
			exact := product(m, bp)
			exact.Quo(exact, wide(api.Whole))
			if e != api.OK || wide(part).Cmp(exact) != 0 {
				t.Fatalf("Part(%d, %d): %d, %v, not %v", m, bp, part, e, exact)
			}
			if i > 0 {
				if less, _ := money.Part(l[i-1], bp); less > part {
					t.Errorf("Part(%d, %d) is %d, Part(%d, %d) is %d", l[i-1], bp, less, m, bp, part)
				}
			}
			if j > 0 {
				if less, _ := money.Part(m, points[j-1]); less > part {
					t.Errorf("Part(%d, %d) is %d, Part(%d, %d) is %d", m, points[j-1], less, m, bp, part)
				}
			}
		}
	}
}

func wide(n int) *big.Int {
	return big.NewInt(int64(n))
}

func product(a, b int) *big.Int {
	return new(big.Int).Mul(wide(a), wide(b))
}

// P2.2
func TestRoundAndEvenExamples(t *testing.T) {
	for _, c := range []struct {
		name    string
		call    func(m, n int) (int, int, api.Errno)
		m, n    int
		a, left int
		e       api.Errno
	}{
		{"Round", money.Round, 1234, 100, 1200, 34, api.OK},
		{"Round", money.Round, 1200, 100, 1200, 0, api.OK},
		{"Round", money.Round, 1199, 100, 1100, 99, api.OK},
		{"Round", money.Round, 0, 1, 0, 0, api.OK},
		{"Round", money.Round, 0, api.MaxMoney, 0, 0, api.OK},
		{"Round", money.Round, 7, 1, 7, 0, api.OK},
		{"Round", money.Round, 7, 8, 0, 7, api.OK},
		{"Round", money.Round, api.MaxMoney - 1, api.MaxMoney, 0, api.MaxMoney - 1, api.OK},
		{"Round", money.Round, api.MaxMoney, api.MaxMoney, api.MaxMoney, 0, api.OK},
		{"Round", money.Round, api.MaxMoney, api.MaxMoney - 1, api.MaxMoney - 1, 1, api.OK},
		{"Round", money.Round, 1, 0, 0, 0, api.ErrRange},
		{"Round", money.Round, 0, 0, 0, 0, api.ErrRange},
		{"Round", money.Round, 1, -1, 0, 0, api.ErrRange},
		{"Round", money.Round, 1, math.MinInt, 0, 0, api.ErrRange},
		{"Round", money.Round, 1, api.MaxMoney + 1, 0, 0, api.ErrRange},
		{"Round", money.Round, 1, math.MaxInt, 0, 0, api.ErrRange},
		{"Round", money.Round, -1, 0, 0, 0, api.ErrRange},
		{"Even", money.Even, 1000, 3, 333, 1, api.OK},
		{"Even", money.Even, 0, 1, 0, 0, api.OK},
		{"Even", money.Even, 5, 1, 5, 0, api.OK},
		{"Even", money.Even, 5, 5, 1, 0, api.OK},
		{"Even", money.Even, 5, 6, 0, 5, api.OK},
		{"Even", money.Even, 7, 1 << 62, 0, 7, api.OK},
		{"Even", money.Even, api.MaxMoney, api.MaxMoney, 1, 0, api.OK},
		{"Even", money.Even, api.MaxMoney, api.MaxMoney + 1, 0, api.MaxMoney, api.OK},
		{"Even", money.Even, api.MaxMoney, math.MaxInt, 0, api.MaxMoney, api.OK},
		{"Even", money.Even, 1, 0, 0, 0, api.ErrRange},
		{"Even", money.Even, 0, 0, 0, 0, api.ErrRange},
		{"Even", money.Even, 1, -1, 0, 0, api.ErrRange},
		{"Even", money.Even, 6, -3, 0, 0, api.ErrRange},
		{"Even", money.Even, 1, math.MinInt, 0, 0, api.ErrRange},
		{"Even", money.Even, -1, 0, 0, 0, api.ErrRange},
	} {
		if a, left, e := c.call(c.m, c.n); a != c.a || left != c.left || e != c.e {
			t.Errorf("%s(%d, %d): %d, %d, %v, not %d, %d, %v", c.name, c.m, c.n, a, left, e, c.a, c.left, c.e)
		}
	}
	for _, m := range others() {
		for _, n := range []int{1, 100, api.MaxMoney} {
			if a, left, e := money.Round(m, n); a != 0 || left != 0 || e != api.ErrRange {
				t.Errorf("Round(%d, %d): %d, %d, %v", m, n, a, left, e)
			}
			if a, left, e := money.Even(m, n); a != 0 || left != 0 || e != api.ErrRange {
				t.Errorf("Even(%d, %d): %d, %d, %v", m, n, a, left, e)
			}
		}
	}
}

// P2.2, P2.5
func TestRoundAndEven(t *testing.T) {
	units := amounts(60)
	for _, m := range amounts(200) {
		for _, n := range units {
			if n == 0 {
				continue
			}
			multiple, left, e := money.Round(m, n)
			if e != api.OK || multiple < 0 || multiple%n != 0 || left < 0 || left >= n || multiple+left != m {
				t.Errorf("Round(%d, %d): %d, %d, %v", m, n, multiple, left, e)
			}
			quotient, rest, e := money.Even(m, n)
			again := product(n, quotient)
			again.Add(again, wide(rest))
			if e != api.OK || quotient < 0 || rest < 0 || rest >= n || again.Cmp(wide(m)) != 0 {
				t.Errorf("Even(%d, %d): %d, %d, %v", m, n, quotient, rest, e)
			}
		}
	}
}

// P2.3
func TestSplitExamples(t *testing.T) {
	const most = api.MaxMoney
	for _, c := range []struct {
		m       int
		weights []int
		parts   []int
	}{
		{100, []int{1, 1, 1}, []int{34, 33, 33}},
		{101, []int{1, 1, 1}, []int{34, 34, 33}},
		{10, []int{1, 2, 4}, []int{1, 3, 6}},
		{10, []int{4, 2, 1}, []int{6, 3, 1}},
		{7, []int{1}, []int{7}},
		{most, []int{most}, []int{most}},
		{0, []int{1}, []int{0}},
		{0, []int{3, 0, 4}, []int{0, 0, 0}},
		{5, []int{0, 1, 0}, []int{0, 5, 0}},
		{2, []int{0, 1, 1, 1}, []int{0, 1, 1, 0}},
		{1, []int{0, 0, 5, 5}, []int{0, 0, 1, 0}},
		{1, []int{1, 2}, []int{0, 1}},
		{1, []int{2, 3, 3, 2}, []int{0, 1, 0, 0}},
		{3, []int{1, 3, 3}, []int{1, 1, 1}},
		{most, []int{most, most}, []int{most / 2, most / 2}},
		{most, []int{most, most, most}, []int{333333333334, 333333333333, 333333333333}},
		{most, []int{most - 1, most}, []int{most / 2, most / 2}},
		{most, []int{1, most - 1}, []int{1, most - 1}},
		{most - 1, []int{1, most - 1}, []int{1, most - 2}},
		{1, []int{most, most - 1}, []int{1, 0}},
	} {
		if parts, e := money.Split(c.m, c.weights); e != api.OK || !slices.Equal(parts, c.parts) {
			t.Errorf("Split(%d, %v): %v, %v, not %v", c.m, c.weights, parts, e, c.parts)
		}
	}
}

// P2.3: the errors, each before those that the chapter names after it.
func TestSplitErrors(t *testing.T) {
	long := slices.Repeat([]int{1}, 65)
	for _, c := range []struct {
		m       int
		weights []int
		e       api.Errno
	}{
		{-1, []int{1}, api.ErrRange},
		{api.MaxMoney + 1, []int{1}, api.ErrRange},
		{math.MinInt, []int{1}, api.ErrRange},
		{math.MaxInt, []int{1}, api.ErrRange},
		{-1, nil, api.ErrRange},
		{-1, long, api.ErrRange},
		{-1, []int{0}, api.ErrRange},
		{1, nil, api.ErrLimit},
		{0, nil, api.ErrLimit},
		{1, []int{}, api.ErrLimit},
		{1, long, api.ErrLimit},
		{1, slices.Repeat([]int{1}, 1000), api.ErrLimit},
		{1, make([]int, 65), api.ErrLimit},
		{1, slices.Repeat([]int{-1}, 65), api.ErrLimit},
		{1, []int{-1}, api.ErrRange},
		{0, []int{-1}, api.ErrRange},
		{1, []int{0, -1}, api.ErrRange},
		{1, []int{1, 1, -1}, api.ErrRange},
		{1, []int{1, -1, 1}, api.ErrRange},
		{1, []int{-1, 2}, api.ErrRange},
		{1, []int{1, -1}, api.ErrRange},
		{1, []int{1, api.MaxMoney + 1}, api.ErrRange},
		{1, []int{math.MinInt, math.MinInt}, api.ErrRange},
		{1, []int{math.MaxInt, math.MaxInt, 2}, api.ErrRange},
		{1, []int{0}, api.ErrDivide},
		{0, []int{0}, api.ErrDivide},
		{1, make([]int, 64), api.ErrDivide},
		{api.MaxMoney, []int{0, 0, 0}, api.ErrDivide},
	} {
		if parts, e := money.Split(c.m, c.weights); len(parts) != 0 || e != c.e {
			t.Errorf("Split(%d, %v): %v, %v, not %v", c.m, c.weights, parts, e, c.e)
		}
	}
}

// P2.3, P2.5, P2.6: all small amounts with all short lists of small weights.
func TestSplitOfSmallAmounts(t *testing.T) {
	lists := [][]int{nil}
	for range 4 {
		var longer [][]int
		for _, l := range lists {
			for weight := range 6 {
				longer = append(longer, append(slices.Clone(l), weight))
			}
		}
		lists = longer
		for _, weights := range lists {
			for m := range 13 {
				if slices.Max(weights) > 0 {
					checkSplit(t, m, weights)
				}
			}
		}
	}
}

// P2.3, P2.5, P2.6: lists of up to 64 weights, some of them equal, and amounts of all sizes.
func TestSplitOfLongLists(t *testing.T) {
	r := rand.New(rand.NewPCG(5, 8))
	l := amounts(1000)
	for range 3000 {
		weights := make([]int, 1+r.IntN(64))
		most := 1 + r.IntN(1<<r.IntN(40))
		for i := range weights {
			weights[i] = r.IntN(most + 1)
		}
		weights[r.IntN(len(weights))] = most
		checkSplit(t, l[r.IntN(len(l))], weights)
	}
	for _, weight := range []int{1, 7, api.MaxMoney - 1, api.MaxMoney} {
		for _, m := range l {
			checkSplit(t, m, slices.Repeat([]int{weight}, 64))
		}
	}
}

// checkSplit compares Split with the definition and with what follows from it.
func checkSplit(t *testing.T, m int, weights []int) {
	t.Helper()
	parts, e := money.Split(m, weights)
	if want := divided(m, weights); e != api.OK || !slices.Equal(parts, want) {
		t.Fatalf("Split(%d, %v): %v, %v, not %v", m, weights, parts, e, want)
	}
	whole, sum := 0, 0
	for i := range weights {
		whole, sum = whole+weights[i], sum+parts[i]
	}
	if sum != m {
		t.Fatalf("Split(%d, %v): %v, with the sum %d", m, weights, parts, sum)
	}
	for i, part := range parts {
		distance := new(big.Int).Sub(product(part, whole), product(m, weights[i]))
		if distance.CmpAbs(wide(whole)) >= 0 || weights[i] == 0 && part != 0 {
			t.Fatalf("Split(%d, %v): part %d is %d", m, weights, i, part)
		}
		for j := range i {
			checkOrder(t, weights[j], weights[i], parts[j], part)
		}
	}
}

// checkOrder compares two parts; the first one has the smaller index.
func checkOrder(t *testing.T, weight, weight2, part, part2 int) {
	t.Helper()
	if weight > weight2 && part < part2 || weight < weight2 && part > part2 {
		t.Fatalf("The weights %d and %d have the parts %d and %d", weight, weight2, part, part2)
	}
	if weight == weight2 && (part < part2 || part > part2+1) {
		t.Fatalf("The equal weights %d have the parts %d and %d", weight, part, part2)
	}
}

// divided is the definition of Split, with big numbers.
func divided(m int, weights []int) []int {
	whole := 0
	for _, weight := range weights {
		whole += weight
	}
	parts, order, remainders := make([]int, len(weights)), make([]int, len(weights)), make([]*big.Int, len(weights))
	left := m
	for i, weight := range weights {
		quotient, remainder := new(big.Int).QuoRem(product(m, weight), wide(whole), new(big.Int))
		parts[i], order[i], remainders[i] = int(quotient.Int64()), i, remainder
		left -= parts[i]
	}
	sort.SliceStable(order, func(i, j int) bool { return remainders[order[i]].Cmp(remainders[order[j]]) > 0 })
	for _, i := range order[:left] {
		parts[i]++
	}
	return parts
}

// R3: arguments stay as they are, their spare capacity too, and results are new memory.
func TestMemory(t *testing.T) {
	memory := []int{5, 3, 3, 77, 78, 79, 80, 81, 82, 83}
	weights, given := memory[:3], slices.Clone(memory)
	first, e := money.Split(100, weights)
	if e != api.OK || !slices.Equal(memory, given) {
		t.Fatalf("Split leaves %v, %v", memory, e)
	}
	kept := slices.Clone(first)
	weights[0] = 50
	second, _ := money.Split(100, weights)
	if !slices.Equal(first, kept) {
		t.Errorf("A later Split changes %v to %v", kept, first)
	}
	first[0], memory[1] = 1000, 1000
	if !slices.Equal(second, divided(100, []int{50, 3, 3})) {
		t.Errorf("Split shares memory: %v", second)
	}
	given = slices.Clone(memory)
	if money.Sum(memory[:3]); !slices.Equal(memory, given) {
		t.Errorf("Sum leaves %v", memory)
	}
}

// P2.4
func TestParse(t *testing.T) {
	for s, m := range map[string]int{
		"0.00": 0, "0.01": 1, "0.05": 5, "0.10": 10, "0.99": 99, "1.00": 100, "1.09": 109, "9.99": 999, "10.00": 1000, "12.34": 1234,
		"100.50": 10050, "9876543210.12": 987654321012, "9999999999.99": api.MaxMoney - 1, "10000000000.00": api.MaxMoney,
	} {
		if got, e := money.Parse(s); got != m || e != api.OK {
			t.Errorf("Parse(%q): %d, %v, not %d", s, got, e, m)
		}
	}
}

// P2.4: a text that is malformed and has too great a number is malformed.
func TestParseErrors(t *testing.T) {
	nines := strings.Repeat("9", 5000)
	for _, s := range []string{
		"", ".", "0", "5", "12", "100", "1.", "1.5", ".5", ".50", ".00", "1.500", "1.000", "01.50", "00.00", "000.50", "-0.00", "-1.00", "+1.00", "-.50",
		" 1.50", "1.50 ", "1.50\n", "\n1.50", "1 .50", "1. 50", "1.5 ", "1. 5", "1.-5", "1.+5", "1.5-", "-1.50", "--1.50", "1,50", "1:50", "1..50", "1.5.0", "1.50.00", "0.0.00",
		"1.5a", "1.a5", "a.50", "1a.50", "0x1.50", "1e2.00", "1_0.00", "1/.50", "1:.50", "1./0", "1.:0", "1.0/", "1.0:", "/.50", ":.50",
		"\u0661.50", "1.\u0661", "1.5\u0661", "1\uff0e50", "1.\xff0", "\xff.50", "1\x00.50", "1.50\x00", "\x001.50", "...", "....", "0...", "-", "-00", "1.5", "001.50",
		nines, nines + ".", nines + ".5", nines + ".500", "0" + nines + ".50", "-" + nines + ".50", "+" + nines + ".50", nines + "x.50", nines + ".x0", nines + ".0x",
		"010000000000.01", "10000000000.1", "10000000000.010", "10000000000.0x", "-10000000000.01", "-9223372036854775809.00", "1" + strings.Repeat("0", 5000) + ".00 ",
	} {
		if m, e := money.Parse(s); m != 0 || e != api.ErrSyntax {
			t.Errorf("Parse(%.40q): %d, %v, not %v", s, m, e, api.ErrSyntax)
		}
	}
	for _, s := range []string{
		"10000000000.01", "10000000000.99", "10000000001.00", "20000000000.00", "100000000000.00", "92233720368547758.07", "92233720368547758.08",
		"184467440737095516.15", "184467440737095516.16", "184467440737095516.17", "9223372036854775807.00", "9223372036854775807.99",
		"9223372036854775808.00", "18446744073709551616.00", "99999999999999999999.00", nines + ".00", nines + ".99",
	} {
		if m, e := money.Parse(s); m != 0 || e != api.ErrOverflow {
			t.Errorf("Parse(%.40q): %d, %v, not %v", s, m, e, api.ErrOverflow)
		}
	}
}

// P2.4
func TestFormat(t *testing.T) {
	for m, s := range map[int]string{
		0: "0.00", 1: "0.01", 5: "0.05", 10: "0.10", 99: "0.99", 100: "1.00", 101: "1.01", 110: "1.10", 1234: "12.34", 10000: "100.00",
		api.MaxMoney - 1: "9999999999.99", api.MaxMoney: "10000000000.00",
	} {
		if got := money.Format(m); got != s {
			t.Errorf("Format(%d): %q, not %q", m, got, s)
		}
	}
	for _, m := range others() {
		if got := money.Format(m); got != "" {
			t.Errorf("Format(%d): %q, not empty", m, got)
		}
	}
}

// P2.4, P2.7: each amount has one text.
func TestRoundTripOfAmounts(t *testing.T) {
	l := amounts(3000)
	for m := range 3000 {
		l = append(l, m, api.MaxMoney-m)
	}
	for _, m := range l {
		digits := strconv.Itoa(m)
		if len(digits) < 3 {
			digits = strings.Repeat("0", 3-len(digits)) + digits
		}
		want := digits[:len(digits)-2] + "." + digits[len(digits)-2:]
		s := money.Format(m)
		if s != want {
			t.Errorf("Format(%d): %q, not %q", m, s, want)
		}
		if again, e := money.Parse(s); again != m || e != api.OK {
			t.Errorf("Parse(%q): %d, %v, not %d", s, again, e, m)
		}
	}
}

// P2.4, P2.7: of all short texts, those are accepted that have the form of an amount.
func TestRoundTripOfTexts(t *testing.T) {
	form := regexp.MustCompile(`^(0|[1-9][0-9]*)\.[0-9][0-9]$`)
	accepted := 0
	for _, s := range shortTexts(".0195-+ ", 6) {
		m, e := money.Parse(s)
		if form.MatchString(s) != (e == api.OK) || e != api.OK && (e != api.ErrSyntax || m != 0) {
			t.Errorf("Parse(%q): %d, %v", s, m, e)
		}
		if e == api.OK {
			accepted++
			if again := money.Format(m); again != s {
				t.Errorf("Format(Parse(%q)): %q", s, again)
			}
		}
	}
	// 0, or one of 3 leading digits with up to 2 further ones of 4, and 2 places: (1 + 3 * (1 + 4 + 16)) * 16.
	if accepted != 1024 {
		t.Errorf("Parse accepts %d of the short texts, not 1024", accepted)
	}
}

// shortTexts are all texts of at most most characters of an alphabet.
func shortTexts(alphabet string, most int) []string {
	all, last := []string{""}, []string{""}
	for range most {
		var next []string
		for _, s := range last {
			for _, c := range alphabet {
				next = append(next, s+string(c))
			}
		}
		all, last = append(all, next...), next
	}
	return all
}
