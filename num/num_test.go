package num_test

import (
	"math"
	"math/big"
	"math/rand/v2"
	"strings"
	"testing"

	"lottery/api"
	"lottery/num"
)

// edges are ints at which a carry, a sign or a width changes.
func edges() []int {
	l := []int{0, math.MinInt, math.MinInt + 1, math.MinInt + 2, math.MaxInt, math.MaxInt - 1, math.MaxInt - 2, 3037000499, 3037000500}
	for _, n := range []int{1, 2, 3, 5, 6, 7, 10, 12, 1 << 31, 1 << 32, 1 << 61, 1 << 62, 1<<32 - 1, 1<<32 + 1, 1000000000000} {
		l = append(l, n, -n)
	}
	return l
}

// samples are ints of all widths, the same in each run.
func samples(count int) []int {
	r := rand.New(rand.NewPCG(1, 2))
	l := make([]int, count)
	for i := range l {
		l[i] = int(r.Uint64()) >> r.IntN(64)
	}
	return l
}

// pairs are all pairs of edges, and pairs of samples.
func pairs() [][2]int {
	var l [][2]int
	for _, a := range edges() {
		for _, b := range edges() {
			l = append(l, [2]int{a, b})
		}
	}
	s := samples(4000)
	for i := 0; i < len(s); i += 2 {
		l = append(l, [2]int{s[i], s[i+1]})
	}
	return l
}

func wide(n int) *big.Int {
	return big.NewInt(int64(n))
}

// checked returns what a checked operation has to return for an exact result.
func checked(n *big.Int) (int, api.Errno) {
	if !n.IsInt64() {
		return 0, api.ErrOverflow
	}
	return int(n.Int64()), api.OK
}

// P1.1
func TestAddSubMul(t *testing.T) {
	for _, c := range []struct {
		name  string
		call  func(a, b int) (int, api.Errno)
		exact func(a, b *big.Int) *big.Int
	}{
		{"Add", num.Add, func(a, b *big.Int) *big.Int { return new(big.Int).Add(a, b) }},
		{"Sub", num.Sub, func(a, b *big.Int) *big.Int { return new(big.Int).Sub(a, b) }},
		{"Mul", num.Mul, func(a, b *big.Int) *big.Int { return new(big.Int).Mul(a, b) }},
	} {
		for _, p := range pairs() {
			n, e := c.call(p[0], p[1])
			want, wantErr := checked(c.exact(wide(p[0]), wide(p[1])))
			if n != want || e != wantErr {
				t.Errorf("%s(%d, %d): %d, %v, not %d, %v", c.name, p[0], p[1], n, e, want, wantErr)
			}
		}
	}
}

// P1.1, with the document's examples written out.
func TestAddSubMulExamples(t *testing.T) {
	for _, c := range []struct {
		name    string
		call    func(a, b int) (int, api.Errno)
		a, b, n int
		e       api.Errno
	}{
		{"Add", num.Add, math.MaxInt, 1, 0, api.ErrOverflow},
		{"Add", num.Add, math.MinInt, math.MinInt, 0, api.ErrOverflow},
		{"Add", num.Add, math.MinInt, math.MaxInt, -1, api.OK},
		{"Sub", num.Sub, math.MinInt, -1, math.MinInt + 1, api.OK},
		{"Sub", num.Sub, math.MinInt, math.MinInt, 0, api.OK},
		{"Sub", num.Sub, 0, math.MinInt, 0, api.ErrOverflow},
		{"Sub", num.Sub, -1, math.MinInt, math.MaxInt, api.OK},
		{"Mul", num.Mul, math.MinInt, -1, 0, api.ErrOverflow},
		{"Mul", num.Mul, -1, math.MinInt, 0, api.ErrOverflow},
		{"Mul", num.Mul, 1, math.MinInt, math.MinInt, api.OK},
		{"Mul", num.Mul, -1 << 31, 1 << 32, math.MinInt, api.OK},
		{"Mul", num.Mul, 1 << 31, 1 << 32, 0, api.ErrOverflow},
		{"Mul", num.Mul, -7, 0, 0, api.OK},
	} {
		if n, e := c.call(c.a, c.b); n != c.n || e != c.e {
			t.Errorf("%s(%d, %d): %d, %v, not %d, %v", c.name, c.a, c.b, n, e, c.n, c.e)
		}
	}
}

// P1.2
func TestMulDivExamples(t *testing.T) {
	for _, c := range []struct {
		a, b, c, q, r int
		e             api.Errno
	}{
		{7, 3, 2, 10, 1, api.OK},
		{0, 0, 1, 0, 0, api.OK},
		{0, math.MaxInt, math.MaxInt, 0, 0, api.OK},
		{math.MaxInt, math.MaxInt, math.MaxInt, math.MaxInt, 0, api.OK},
		{math.MaxInt, math.MaxInt, math.MaxInt - 1, 0, 0, api.ErrOverflow},
		{math.MaxInt - 1, math.MaxInt, math.MaxInt, math.MaxInt - 1, 0, api.OK},
		{math.MaxInt, 1, 1, math.MaxInt, 0, api.OK},
		{1 << 62, 3, 4, 3 << 60, 0, api.OK},
		{1 << 62, 2, 1, 0, 0, api.ErrOverflow},
		{1 << 62, 4, 1, 0, 0, api.ErrOverflow},
		{math.MaxInt, math.MaxInt, 1, 0, 0, api.ErrOverflow},
	} {
		if q, r, e := num.MulDiv(c.a, c.b, c.c); q != c.q || r != c.r || e != c.e {
			t.Errorf("MulDiv(%d, %d, %d): %d, %d, %v", c.a, c.b, c.c, q, r, e)
		}
	}
}

// P1.2: the errors, each before those that the chapter names after it.
func TestMulDivErrors(t *testing.T) {
	for _, c := range []struct {
		a, b, c int
		e       api.Errno
	}{
		{1, 1, 0, api.ErrDivide},
		{-1, 1, 0, api.ErrDivide},
		{1, -1, 0, api.ErrDivide},
		{math.MinInt, math.MinInt, 0, api.ErrDivide},
		{math.MaxInt, math.MaxInt, 0, api.ErrDivide},
		{-1, 1, 1, api.ErrRange},
		{1, -1, 1, api.ErrRange},
		{1, 1, -1, api.ErrRange},
		{-1, -1, 1, api.ErrRange},
		{0, -1, 1, api.ErrRange},
		{math.MinInt, 1, 1, api.ErrRange},
		{1, 1, math.MinInt, api.ErrRange},
		{math.MaxInt, math.MaxInt, -1, api.ErrRange},
		{-1, math.MaxInt, 1, api.ErrRange},
		{math.MaxInt, 2, 1, api.ErrOverflow},
	} {
		if q, r, e := num.MulDiv(c.a, c.b, c.c); q != 0 || r != 0 || e != c.e {
			t.Errorf("MulDiv(%d, %d, %d): %d, %d, %v, not 0, 0, %v", c.a, c.b, c.c, q, r, e, c.e)
		}
	}
}

// P1.2, P1.7
func TestDivision(t *testing.T) {
	divisors := append(edges(), samples(40)...)
	for _, p := range pairs() {
		for _, c := range divisors {
			if p[0] >= 0 && p[1] >= 0 && c > 0 {
				checkDivision(t, p[0], p[1], c)
			}
		}
	}
}

func checkDivision(t *testing.T, a, b, c int) {
	t.Helper()
	product := new(big.Int).Mul(wide(a), wide(b))
	q, r, e := num.MulDiv(a, b, c)
	if e != api.OK {
		quotient := new(big.Int).Quo(product, wide(c))
		if e != api.ErrOverflow || quotient.IsInt64() || q != 0 || r != 0 {
			t.Errorf("MulDiv(%d, %d, %d): %d, %d, %v", a, b, c, q, r, e)
		}
		return
	}
	again := new(big.Int).Mul(wide(q), wide(c))
	again.Add(again, wide(r))
	if r < 0 || r >= c || again.Cmp(product) != 0 {
		t.Errorf("MulDiv(%d, %d, %d): %d, %d", a, b, c, q, r)
	}
}

// P1.3
func TestPowerExamples(t *testing.T) {
	for _, c := range []struct {
		a, n, p int
		e       api.Errno
	}{
		{10, 18, 1000000000000000000, api.OK},
		{10, 19, 0, api.ErrOverflow},
		{-2097152, 3, math.MinInt, api.OK},
		{2097152, 3, 0, api.ErrOverflow},
		{0, 0, 1, api.OK},
		{0, 1, 0, api.OK},
		{0, 62, 0, api.OK},
		{math.MinInt, 0, 1, api.OK},
		{math.MinInt, 1, math.MinInt, api.OK},
		{math.MinInt, 2, 0, api.ErrOverflow},
		{-1, 61, -1, api.OK},
		{-1, 62, 1, api.OK},
		{2, 62, 1 << 62, api.OK},
		{3, 62, 0, api.ErrOverflow},
		{1, 62, 1, api.OK},
		{1, 63, 0, api.ErrRange},
		{0, 63, 0, api.ErrRange},
		{-2, 63, 0, api.ErrRange},
		{10, 63, 0, api.ErrRange},
		{1, -1, 0, api.ErrRange},
		{1, math.MinInt, 0, api.ErrRange},
		{10, math.MaxInt, 0, api.ErrRange},
	} {
		if p, e := num.Power(c.a, c.n); p != c.p || e != c.e {
			t.Errorf("Power(%d, %d): %d, %v, not %d, %v", c.a, c.n, p, e, c.p, c.e)
		}
	}
}

// P1.3
func TestPower(t *testing.T) {
	for _, a := range append(edges(), samples(500)...) {
		for n := range 63 {
			p, e := num.Power(a, n)
			want, wantErr := checked(new(big.Int).Exp(wide(a), wide(n), nil))
			if p != want || e != wantErr {
				t.Errorf("Power(%d, %d): %d, %v, not %d, %v", a, n, p, e, want, wantErr)
			}
		}
	}
}

// P1.4
func TestGCDExamples(t *testing.T) {
	for _, c := range [][3]int{
		{12, -18, 6}, {-12, -18, 6}, {0, -5, 5}, {5, 0, 5}, {0, 0, 0}, {17, 5, 1},
		{math.MinInt, 0, 0}, {0, math.MinInt, 0}, {math.MinInt, math.MinInt, 0},
		{math.MinInt, 6, 2}, {6, math.MinInt, 2}, {math.MinInt, -1, 1},
		{math.MinInt, 1 << 62, 1 << 62}, {math.MinInt, -1 << 62, 1 << 62},
		{math.MaxInt, math.MinInt, 1}, {math.MaxInt, math.MaxInt, math.MaxInt}, {math.MinInt + 1, 0, math.MaxInt},
	} {
		if d := num.GCD(c[0], c[1]); d != c[2] {
			t.Errorf("GCD(%d, %d): %d, not %d", c[0], c[1], d, c[2])
		}
	}
}

// P1.4, P1.9
func TestGCD(t *testing.T) {
	for _, p := range pairs() {
		a, b := p[0], p[1]
		d := num.GCD(a, b)
		want, wantErr := checked(new(big.Int).GCD(nil, nil, new(big.Int).Abs(wide(a)), new(big.Int).Abs(wide(b))))
		if wantErr != api.OK {
			want = 0
		}
		if d != want {
			t.Errorf("GCD(%d, %d): %d, not %d", a, b, d, want)
		}
		if d != 0 && (d < 0 || a%d != 0 || b%d != 0) {
			t.Errorf("GCD(%d, %d): %d divides not both", a, b, d)
		}
	}
}

// P1.5
func TestParse(t *testing.T) {
	for _, c := range []struct {
		s string
		n int
	}{
		{"0", 0}, {"7", 7}, {"-1", -1}, {"-12", -12}, {"10", 10}, {"1234567890", 1234567890},
		{"9223372036854775807", math.MaxInt}, {"-9223372036854775808", math.MinInt},
	} {
		if n, e := num.Parse(c.s); n != c.n || e != api.OK {
			t.Errorf("Parse(%q): %d, %v, not %d", c.s, n, e, c.n)
		}
	}
}

// P1.5: a text that is too long for an int and malformed is malformed.
func TestParseErrors(t *testing.T) {
	nines := strings.Repeat("9", 5000)
	for _, s := range []string{
		"", "-", "--1", "-0", "-00", "00", "007", "-07", "0000", "+1", "+0", "+", " 1", "1 ", "1\n", "-1\n", "\x001", "1\x00",
		"- 1", "1-", "1-1", "1a", "a", "0x10", "0b1", "1_000", "1.0", "1e3", ".", "/", ":", "1/", "1:", "/1", ":1", "\u0661", "\uff11", "1\u0661", "\xff", "\u22121",
		nines + "x", "x" + nines, "0" + nines, "-0" + nines, "+" + nines, nines + "-", nines + " " + nines,
		"09223372036854775808", "9223372036854775808 ", "00000000000000000000000",
	} {
		if n, e := num.Parse(s); n != 0 || e != api.ErrSyntax {
			t.Errorf("Parse(%.40q): %d, %v, not %v", s, n, e, api.ErrSyntax)
		}
	}
	for _, s := range []string{
		"9223372036854775808", "-9223372036854775809", "9223372036854775817", "10000000000000000000",
		"18446744073709551615", "18446744073709551616", "18446744073709551617", "-18446744073709551615", "-18446744073709551616",
		"100000000000000000000", nines, "-" + nines, "1" + strings.Repeat("0", 5000),
	} {
		if n, e := num.Parse(s); n != 0 || e != api.ErrOverflow {
			t.Errorf("Parse(%.40q): %d, %v, not %v", s, n, e, api.ErrOverflow)
		}
	}
}

// P1.6
func TestFormat(t *testing.T) {
	for _, n := range append(edges(), samples(1000)...) {
		if s := num.Format(n); s != wide(n).String() {
			t.Errorf("Format(%d): %q", n, s)
		}
	}
	for n, s := range map[int]string{0: "0", 7: "7", -12: "-12", 100: "100", math.MaxInt: "9223372036854775807", math.MinInt: "-9223372036854775808"} {
		if got := num.Format(n); got != s {
			t.Errorf("Format(%d): %q, not %q", n, got, s)
		}
	}
}

// P1.8
func TestInverses(t *testing.T) {
	for _, p := range pairs() {
		sum, e := num.Add(p[0], p[1])
		if e != api.OK {
			continue
		}
		if a, e := num.Sub(sum, p[1]); a != p[0] || e != api.OK {
			t.Errorf("Sub(%d, %d): %d, %v, not %d", sum, p[1], a, e, p[0])
		}
	}
	for _, n := range append(edges(), samples(1000)...) {
		if again, e := num.Parse(num.Format(n)); again != n || e != api.OK {
			t.Errorf("Parse(Format(%d)): %d, %v", n, again, e)
		}
	}
	accepted := 0
	for _, s := range shortTexts("-+0129 x", 4) {
		n, e := num.Parse(s)
		if e == api.OK {
			accepted++
		}
		if e == api.OK && num.Format(n) != s {
			t.Errorf("Format(Parse(%q)): %q", s, num.Format(n))
		}
	}
	// 0, and 3 leading digits, up to 3 further ones of 4: 1 + 3 * (1 + 4 + 16 + 64), and with a minus sign 3 * (1 + 4 + 16).
	if accepted != 319 {
		t.Errorf("Parse accepts %d of the short texts, not 319", accepted)
	}
}

// shortTexts are all texts of at most most characters of an alphabet.
func shortTexts(alphabet string, most int) []string {
	all, last := []string{""}, []string{""}
	for range most {
		var next []string
		for _, s := range last {
			for _, c := range alphabet {
				next = append(next, s+string(c))
			}
		}
		all, last = append(all, next...), next
	}
	return all
}
