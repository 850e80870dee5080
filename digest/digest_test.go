package digest_test

import (
	"fmt"
	"hash/fnv"
	"math/big"
	"math/rand/v2"
	"strconv"
	"strings"
	"testing"

	"lottery/api"
	"lottery/digest"
)

// The two texts have the same Sum.
const (
	twin  = "8yn0iYCKYHlIj4-BwPqk"
	other = "GReLUrM4wMqfg9yzV3KQ"
)

// fnvOf is the FNV-1a digest as Go's library computes it.
func fnvOf(s string) uint64 {
	h := fnv.New64a()
	h.Write([]byte(s))
	return h.Sum64()
}

// continued is what a digest of FNV-1a becomes when t is appended to its text, in big integers.
func continued(sum uint64, t string) uint64 {
	x := new(big.Int).SetUint64(sum)
	for _, c := range []byte(t) {
		x.Xor(x, big.NewInt(int64(c)))
		x = times(x, 1099511628211)
	}
	return x.Uint64()
}

// modulo is 2^64.
func modulo() *big.Int {
	return new(big.Int).Lsh(big.NewInt(1), 64)
}

// times is the product modulo 2^64.
func times(x *big.Int, factor uint64) *big.Int {
	product := new(big.Int).Mul(x, new(big.Int).SetUint64(factor))
	return product.Mod(product, modulo())
}

// mixOf performs the five steps of Mix in big integers.
func mixOf(n uint64) uint64 {
	x := new(big.Int).SetUint64(n)
	shifted := func(bits uint) *big.Int {
		return new(big.Int).Xor(x, new(big.Int).Rsh(x, bits))
	}
	x = shifted(30)
	x = times(x, 0xbf58476d1ce4e5b9)
	x = shifted(27)
	x = times(x, 0x94d049bb133111eb)
	x = shifted(31)
	return x.Uint64()
}

// sumOf is a sum modulo 2^64.
func sumOf(a, b uint64) uint64 {
	sum := new(big.Int).Add(new(big.Int).SetUint64(a), new(big.Int).SetUint64(b))
	return sum.Mod(sum, modulo()).Uint64()
}

// numbers are different ones: those at the edges, with one bit set, with one bit clear, with low or high bits set, and any others, the same in each run.
func numbers() []uint64 {
	l := []uint64{0, 3, 5, 10, 255, 256, 1<<32 + 1, 14695981039346656037, 1099511628211, 0xbf58476d1ce4e5b9, 0x94d049bb133111eb, 0x9e3779b97f4a7c15, 0x0123456789abcdef, 0xfedcba9876543210}
	for bit := range 64 {
		one := uint64(1) << bit
		l = append(l, one, ^one, one-1, -one)
	}
	r := rand.New(rand.NewPCG(7, 1))
	for range 1000 {
		l = append(l, r.Uint64(), r.Uint64()>>r.IntN(64))
	}
	return different(l)
}

// different returns the elements of l once each.
func different[E comparable](l []E) []E {
	seen := map[E]bool{}
	kept := l[:0]
	for _, e := range l {
		if !seen[e] {
			kept = append(kept, e)
		}
		seen[e] = true
	}
	return kept
}

// texts are different ones: the empty one, each single byte, bytes that are no UTF-8, long ones, and any others, the same in each run.
func texts() []string {
	l := []string{
		"", "a", "b", "ab", "ba", "aa", "abc", "foobar", "lottery", twin, other,
		"\x00", "\x00\x00", "\x00\x00\x00", "a\x00", "\x00a", "\xff", "\xff\xff", "\xff\x00", "\x00\xff",
		"\x80", "\xc3", "\xc3\x28", "\xc0\x80", "\xed\xa0\x80", "\xf5\x80\x80\x80", "ü", "u\u0308", "\u65e5\u672c", "\U0001f3b2", "\ufffd",
		"0", "00", "1", "-1", "\n", "\r\n", "a\n", "a ", " a", "A",
		strings.Repeat("a", api.MaxText), strings.Repeat("\x00", api.MaxText), strings.Repeat("\xff", api.MaxText+1), strings.Repeat("ab\xff", 50000),
	}
	for c := range 256 {
		l = append(l, string([]byte{byte(c)}))
	}
	r := rand.New(rand.NewPCG(7, 2))
	for range 300 {
		b := make([]byte, r.IntN(40))
		for i := range b {
			b[i] = byte(r.Uint32())
		}
		l = append(l, string(b))
	}
	return different(l)
}

// P7.1: the examples, and published digests of FNV-1a.
func TestSumExamples(t *testing.T) {
	for _, c := range []struct {
		s    string
		want uint64
	}{
		{"", 14695981039346656037},
		{"", 0xcbf29ce484222325},
		{"a", 0xaf63dc4c8601ec8c},
		{"b", 0xaf63df4c8601f1a5},
		{"foobar", 0x85944171f73967e8},
		{"\x00", 0xaf63bd4c8601b7df},
		{"\xff", 0xaf64724c8602eb6e},
		{"\xff\x00\x00\x01", 0x6961196491cc682d},
		{twin, 0x4eac0c95540867e4},
		{other, 0x4eac0c95540867e4},
	} {
		if got := digest.Sum(c.s); got != c.want {
			t.Errorf("Sum(%q) = %x, want %x", c.s, got, c.want)
		}
	}
}

// P7.1, R1: Sum is FNV-1a for texts of any bytes and lengths, byte by byte and not rune by rune.
func TestSum(t *testing.T) {
	for _, s := range texts() {
		if got, want := digest.Sum(s), fnvOf(s); got != want {
			t.Errorf("Sum(%.40q) of %d bytes = %x, want %x", s, len(s), got, want)
		}
	}
	for length := range 300 {
		for _, part := range []string{"\x00", "x", "\xff", "\xc3\xbc"} {
			s := strings.Repeat(part, length)
			if got, want := digest.Sum(s), fnvOf(s); got != want {
				t.Errorf("Sum(%.40q) of %d bytes = %x, want %x", s, len(s), got, want)
			}
		}
	}
}

// P7.1: every byte counts, and so does its place.
func TestSumOfChangedTexts(t *testing.T) {
	const s = "game lotto \x00\xff\xc3"
	sums := map[uint64]string{digest.Sum(s): s}
	for i := range len(s) {
		for bit := range 8 {
			b := []byte(s)
			b[i] ^= 1 << bit
			sum := digest.Sum(string(b))
			if before, ok := sums[sum]; ok {
				t.Errorf("Sum(%q) = Sum(%q)", b, before)
			}
			sums[sum] = string(b)
		}
	}
}

// P7.2, P7.3: the examples, and more results as literals.
func TestMixExamples(t *testing.T) {
	for _, c := range []struct{ x, want uint64 }{
		{0, 0},
		{0x9e3779b97f4a7c15, 0xe220a8397b1dcdaf},
		{0x3c6ef372fe94f82a, 0x6e789e6aa1b965f4}, // the numbers of the generator SplitMix64 from 0 on
		{0xdaa66d2c7ddf743f, 0x06c45d188009454f},
		{0x78dde6e5fd29f054, 0xf88bb8a8724c81ec},
		{0x1715609f7c746c69, 0x1b39896a51a8749b},
		{1, 0x5692161d100b05e5},
		{1 << 63, 0x25c26ea579cea98a},
		{1<<64 - 1, 0xb4d055fcf2cbbd7b},
	} {
		if got := digest.Mix(c.x); got != c.want {
			t.Errorf("Mix(%x) = %x, want %x", c.x, got, c.want)
		}
		if got := digest.Unmix(c.want); got != c.x {
			t.Errorf("Unmix(%x) = %x, want %x", c.want, got, c.x)
		}
	}
}

// P7.2, R1: Mix performs the five steps.
func TestMix(t *testing.T) {
	for _, x := range numbers() {
		if got, want := digest.Mix(x), mixOf(x); got != want {
			t.Errorf("Mix(%x) = %x, want %x", x, got, want)
		}
	}
}

// P7.3, P7.6, R1: Unmix is the inverse of Mix on either side.
func TestUnmix(t *testing.T) {
	for _, x := range numbers() {
		if got := digest.Unmix(mixOf(x)); got != x {
			t.Errorf("Unmix(%x) = %x, want %x", mixOf(x), got, x)
		}
		if got := mixOf(digest.Unmix(x)); got != x {
			t.Errorf("the Mix of Unmix(%x) is %x", x, got)
		}
		if got := digest.Unmix(digest.Mix(x)); got != x {
			t.Errorf("Unmix(Mix(%x)) = %x", x, got)
		}
		if got := digest.Mix(digest.Unmix(x)); got != x {
			t.Errorf("Mix(Unmix(%x)) = %x", x, got)
		}
	}
}

// P7.6: Mix and Unmix never give two numbers the same result.
func TestMixGivesEachResultOnce(t *testing.T) {
	for name, f := range map[string]func(uint64) uint64{"Mix": digest.Mix, "Unmix": digest.Unmix} {
		results := map[uint64]uint64{}
		put := func(x uint64) {
			if before, ok := results[f(x)]; ok && before != x {
				t.Errorf("%s(%x) = %s(%x)", name, x, name, before)
			}
			results[f(x)] = x
		}
		for _, x := range numbers() {
			put(x)
		}
		for x := range uint64(20000) {
			put(x)
			put(^x)
			put(x << 32)
			put(x << 48)
		}
	}
}

// P7.4: Keyed and Chain are what the chapter composes of Mix and Sum; the sum in Chain wraps around.
func TestKeyedAndChain(t *testing.T) {
	for _, s := range texts() {
		sum := fnvOf(s)
		for _, x := range []uint64{0, 1, 255, 1 << 63, 1<<63 - 1, 1<<64 - 1, sum, ^sum, -sum, -sum - 1, 1 - sum, 0x0123456789abcdef} {
			if got, want := digest.Keyed(x, s), mixOf(mixOf(x)^sum); got != want {
				t.Errorf("Keyed(%x, %.40q) = %x, want %x", x, s, got, want)
			}
			if got, want := digest.Chain(x, s), mixOf(sumOf(x, sum)); got != want {
				t.Errorf("Chain(%x, %.40q) = %x, want %x", x, s, got, want)
			}
		}
	}
	for _, x := range numbers() {
		for _, s := range []string{"", "a", "\x00", "\xff\x80", "lottery"} {
			if got, want := digest.Keyed(x, s), mixOf(mixOf(x)^fnvOf(s)); got != want {
				t.Errorf("Keyed(%x, %q) = %x, want %x", x, s, got, want)
			}
			if got, want := digest.Chain(x, s), mixOf(sumOf(x, fnvOf(s))); got != want {
				t.Errorf("Chain(%x, %q) = %x, want %x", x, s, got, want)
			}
		}
	}
}

// P7.4: results that follow from those of Sum and Mix, some of which are 0.
func TestKeyedAndChainOfSomeTexts(t *testing.T) {
	if got := digest.Chain(-digest.Sum("a"), "a"); got != 0 {
		t.Errorf("Chain = %x, want 0", got)
	}
	if got := digest.Keyed(digest.Unmix(digest.Sum("a")), "a"); got != 0 {
		t.Errorf("Keyed = %x, want 0", got)
	}
	for _, c := range []struct {
		x            uint64
		s            string
		keyed, chain uint64
	}{
		{0, "", mixOf(0xcbf29ce484222325), mixOf(0xcbf29ce484222325)},
		{0, "a", mixOf(0xaf63dc4c8601ec8c), mixOf(0xaf63dc4c8601ec8c)},
		{1 << 63, "a", mixOf(0x25c26ea579cea98a ^ 0xaf63dc4c8601ec8c), mixOf(0x2f63dc4c8601ec8c)},
		{1<<64 - 1, "", mixOf(0xb4d055fcf2cbbd7b ^ 0xcbf29ce484222325), mixOf(0xcbf29ce484222324)},
	} {
		if got := digest.Keyed(c.x, c.s); got != c.keyed {
			t.Errorf("Keyed(%x, %q) = %x, want %x", c.x, c.s, got, c.keyed)
		}
		if got := digest.Chain(c.x, c.s); got != c.chain {
			t.Errorf("Chain(%x, %q) = %x, want %x", c.x, c.s, got, c.chain)
		}
	}
}

// P7.7: for one text, different keys and different previous digests give different results, also where they differ in one bit.
func TestKeysGiveDifferentResults(t *testing.T) {
	for name, f := range map[string]func(uint64, string) uint64{"Keyed": digest.Keyed, "Chain": digest.Chain} {
		for _, s := range []string{"", "a", "\x00\xff", twin, strings.Repeat("lottery ", 100)} {
			results := map[uint64]uint64{}
			for _, key := range numbers() {
				result := f(key, s)
				if before, ok := results[result]; ok {
					t.Errorf("%s(%x, %.40q) = %s(%x, ..)", name, key, s, name, before)
				}
				results[result] = key
			}
			for _, key := range []uint64{0, 1<<64 - 1, 0x0123456789abcdef, 0x9e3779b97f4a7c15} {
				for bit := range 64 {
					if f(key, s) == f(key^1<<bit, s) {
						t.Errorf("%s(%x, %.40q) does not depend on bit %d", name, key, s, bit)
					}
				}
			}
		}
	}
}

// P7.7: for one key, results of two texts are equal exactly if their Sums are.
func TestKeyedDependsOnTheSum(t *testing.T) {
	for _, key := range []uint64{0, 1, 1 << 63, 1<<64 - 1, 0x0123456789abcdef} {
		results := map[uint64]string{}
		for _, s := range texts() {
			result := digest.Keyed(key, s)
			if before, ok := results[result]; ok && digest.Sum(before) != digest.Sum(s) {
				t.Errorf("Keyed(%x, %.40q) = Keyed(.., %.40q), but their Sums are not equal", key, s, before)
			}
			results[result] = s
		}
		if digest.Keyed(key, twin) != digest.Keyed(key, other) || digest.Chain(key, twin) != digest.Chain(key, other) {
			t.Errorf("results of two texts with one Sum are not equal for %x", key)
		}
	}
}

// P7.8: the Sum of a text in two parts is found from the Sum of the first one; either of them may be empty.
func TestSumOfTwoParts(t *testing.T) {
	for _, whole := range []string{"", "a", "\x00", "ab", "\xff\x00\xc3", "game lotto", twin + other, strings.Repeat("\xfe\x01", 50)} {
		for i := range len(whole) + 1 {
			if got, want := digest.Sum(whole), continued(digest.Sum(whole[:i]), whole[i:]); got != want {
				t.Errorf("Sum(%q) = %x; from its first %d bytes follows %x", whole, got, i, want)
			}
		}
	}
	for _, s := range texts() {
		if len(s) > 1000 {
			continue
		}
		for _, appended := range []string{"", "b", "\x00", "\xff", "a b"} {
			if got, want := digest.Sum(s+appended), continued(digest.Sum(s), appended); got != want {
				t.Errorf("Sum(%q + %q) = %x, want %x", s, appended, got, want)
			}
		}
	}
}

// P7.8: what is appended to two texts with one Sum gives texts with one Sum.
func TestSumOfAppendedText(t *testing.T) {
	for _, appended := range texts() {
		if digest.Sum(twin+appended) != digest.Sum(other+appended) {
			t.Errorf("Sum(%q + %.40q) != Sum(%q + ..)", twin, appended, other)
		}
	}
}

// hexTexts are numbers with their texts.
func hexTexts() map[string]uint64 {
	return map[string]uint64{
		"0000000000000000": 0,
		"0000000000000001": 1,
		"0000000000000009": 9,
		"000000000000000a": 10,
		"000000000000000f": 15,
		"0000000000000010": 16,
		"00000000000000ff": 255,
		"00000000ffffffff": 1<<32 - 1,
		"0000000100000000": 1 << 32,
		"0123456789abcdef": 81985529216486895,
		"7fffffffffffffff": 1<<63 - 1,
		"8000000000000000": 1 << 63,
		"af63dc4c8601ec8c": 0xaf63dc4c8601ec8c,
		"cbf29ce484222325": 14695981039346656037,
		"fedcba9876543210": 18364758544493064720,
		"ffffffffffffffff": 1<<64 - 1,
	}
}

// P7.5: the examples and the edges.
func TestHexExamples(t *testing.T) {
	for s, x := range hexTexts() {
		if got := digest.Hex(x); got != s {
			t.Errorf("Hex(%d) = %q, want %q", x, got, s)
		}
		if got, e := digest.ParseHex(s); got != x || e != api.OK {
			t.Errorf("ParseHex(%q) = %d, %v, want %d", s, got, e, x)
		}
	}
}

// P7.5, P7.6, R1: Hex and ParseHex of any number.
func TestHex(t *testing.T) {
	for _, x := range numbers() {
		text := fmt.Sprintf("%016x", x)
		if got := digest.Hex(x); got != text {
			t.Errorf("Hex(%d) = %q, want %q", x, got, text)
		}
		if got, e := digest.ParseHex(text); got != x || e != api.OK {
			t.Errorf("ParseHex(%q) = %d, %v, want %d", text, got, e, x)
		}
		if got, e := digest.ParseHex(digest.Hex(x)); got != x || e != api.OK {
			t.Errorf("ParseHex(Hex(%d)) = %d, %v", x, got, e)
		}
	}
}

// P7.5, P7.6, R2: every byte at every place of a text is either a digit of the number, or ErrSyntax.
func TestParseHexOfEachByte(t *testing.T) {
	for _, text := range []string{"0000000000000000", "ffffffffffffffff", "0123456789abcdef", "af63dc4c8601ec8c"} {
		for i := range len(text) {
			for c := range 256 {
				b := []byte(text)
				b[i] = byte(c)
				checkParseHex(t, string(b))
			}
		}
	}
}

// checkParseHex compares ParseHex of a text of 16 bytes with Go's library, which takes capital letters too.
func checkParseHex(t *testing.T, s string) {
	t.Helper()
	want, e := uint64(0), api.ErrSyntax
	if strings.Trim(s, "0123456789abcdef") == "" && len(s) == 16 {
		want, _ = strconv.ParseUint(s, 16, 64)
		e = api.OK
	}
	got, gotErr := digest.ParseHex(s)
	if got != want || gotErr != e {
		t.Errorf("ParseHex(%q) = %x, %v, want %x, %v", s, got, gotErr, want, e)
	}
	if gotErr == api.OK && digest.Hex(got) != s {
		t.Errorf("Hex(ParseHex(%q)) = %q", s, digest.Hex(got))
	}
}

// P7.5, R1, R2: texts that are not 16 small hexadecimal digits.
func TestParseHexOfOtherTexts(t *testing.T) {
	l := []string{
		"", "0", "f", "ff", "00000000000000FF", "ABCDEFABCDEFABCD", "0123456789ABCDEF", "af63dc4c8601eC8c",
		"/000000000000000", "000000000000000/", "000000000000000:", "000000000000000`", "000000000000000g", "000000000000000@", "000000000000000G",
		"-000000000000001", "+000000000000001", " 000000000000001", "000000000000001 ", "000000000000001\n", "0x00000000000001", "0X00000000000001",
		"0000_0000_0000_0", "000000000000.000", "00000000000000\x00\x00", "00000000000000\xff\xff", "00000000000000é", "0000000000000\uff10", "\x00\x00\x00\x00\x00\x00\x00\x00\x00\x00\x00\x00\x00\x00\x00\x00",
		"ü00000000000000", "gggggggggggggggg", "                ",
		strings.Repeat("0", 17) + "\n", strings.Repeat("f", 32), strings.Repeat("0", api.MaxText), strings.Repeat("a", 1<<16+16),
	}
	for s := range hexTexts() {
		l = append(l, s[1:], s[:15], s+"0", "0"+s, s+"f", "f"+s, s+"\n", s+" ", s+"\x00", s+s, s+"g")
	}
	for length := range 100 {
		if length != 16 {
			l = append(l, strings.Repeat("0", length), strings.Repeat("a", length))
		}
	}
	for _, s := range l {
		if x, e := digest.ParseHex(s); x != 0 || e != api.ErrSyntax {
			t.Errorf("ParseHex(%.40q) of %d bytes = %x, %v, want 0, %v", s, len(s), x, e, api.ErrSyntax)
		}
	}
}

// P7.5, P7.6, R2: any texts of 14 to 18 bytes, most of whose bytes are digits.
func TestParseHexOfAnyText(t *testing.T) {
	const bytes = "0123456789abcdef0123456789abcdef0123456789abcdefAFGg/:@`\x00\xff "
	r := rand.New(rand.NewPCG(7, 3))
	for range 20000 {
		b := make([]byte, 14+r.IntN(5))
		for i := range b {
			b[i] = bytes[r.IntN(len(bytes))]
		}
		checkParseHex(t, string(b))
	}
}

// R7: a call has the result that it had before, whatever was called in between.
func TestResultsStay(t *testing.T) {
	results := func() []uint64 {
		l := []uint64{}
		for _, x := range numbers()[:100] {
			parsed, _ := digest.ParseHex(digest.Hex(x))
			l = append(l, digest.Mix(x), digest.Unmix(x), digest.Sum(twin), digest.Keyed(x, "a"), digest.Chain(x, "a"), parsed)
		}
		return l
	}
	first, second := results(), results()
	for i := range first {
		if first[i] != second[i] {
			t.Errorf("result %d was %x, and is %x", i, first[i], second[i])
		}
	}
}
