package stream_test

import (
	"math"
	"math/big"
	"math/rand/v2"
	"slices"
	"testing"

	"lottery/api"
	"lottery/digest"
	"lottery/stream"
)

// gamma is what Next adds to the state.
const gamma = 0x9e3779b97f4a7c15

// A model is a stream in big integers; its lists are made by removing elements, or by looking for them, and not by an exchange of indices.
type model struct {
	state *big.Int
	used  int
}

// modelOf is the model of a new stream.
func modelOf(seed uint64) *model {
	return &model{state: new(big.Int).SetUint64(seed)}
}

// modulo is 2^64.
func modulo() *big.Int {
	return new(big.Int).Lsh(big.NewInt(1), 64)
}

// next performs the addition and the five steps of Mix.
func (m *model) next() *big.Int {
	m.used++
	m.state = new(big.Int).Add(m.state, new(big.Int).SetUint64(gamma))
	m.state.Mod(m.state, modulo())
	x := new(big.Int).Set(m.state)
	for _, step := range []struct {
		shift  uint
		factor uint64
	}{{30, 0xbf58476d1ce4e5b9}, {27, 0x94d049bb133111eb}, {31, 1}} {
		x.Xor(x, new(big.Int).Rsh(x, step.shift))
		x.Mul(x, new(big.Int).SetUint64(step.factor))
		x.Mod(x, modulo())
	}
	return x
}

// below is for numbers n that are not out of range.
func (m *model) below(n int) int {
	multiple := new(big.Int).Div(modulo(), big.NewInt(int64(n)))
	multiple.Mul(multiple, big.NewInt(int64(n)))
	x := m.next()
	for x.Cmp(multiple) >= 0 {
		x = m.next()
	}
	return int(x.Mod(x, big.NewInt(int64(n))).Int64())
}

// shuffle fills a list from its end: what stands last comes to the place of the element that is chosen.
func (m *model) shuffle(n int) []int {
	left := []int{}
	for i := range n {
		left = append(left, i+1)
	}
	l := make([]int, n)
	for len(left) > 1 {
		end := len(left) - 1
		i := m.below(len(left))
		l[end] = left[i]
		left[i] = left[end]
		left = left[:end]
	}
	copy(l, left)
	return l
}

// sample draws from a list: what stands first comes to the place of the element that is chosen.
func (m *model) sample(n, k int) []int {
	left := []int{}
	for i := range n {
		left = append(left, i+1)
	}
	l := []int{}
	for range k {
		i := m.below(len(left))
		l = append(l, left[i])
		left[i] = left[0]
		left = left[1:]
	}
	return l
}

// seeds are those at the edges, those with one bit set, and any others, the same in each run.
func seeds() []uint64 {
	l := []uint64{0, 1, 2, 1 << 63, 1<<63 - 1, 1<<63 + 1, 1<<64 - 1, 1<<64 - 2, gamma, 1<<64 - gamma, 1<<65 - 2*gamma, 1234567, 0x0123456789abcdef}
	for bit := range 64 {
		l = append(l, 1<<bit)
	}
	r := rand.New(rand.NewPCG(9, 1))
	for range 50 {
		l = append(l, r.Uint64())
	}
	return l
}

// seedFor is the seed of the stream whose value of that number, from 1 on, is x.
func seedFor(x uint64, number int) uint64 {
	return digest.Unmix(x) - uint64(number)*gamma
}

// excess is the number of values that are not below the greatest multiple of n.
func excess(n int) uint64 {
	rest := new(big.Int).Mod(modulo(), big.NewInt(int64(n)))
	return rest.Uint64()
}

// isOrder reports whether l contains each number from 1 to n once.
func isOrder(l []int, n int) bool {
	sorted := slices.Sorted(slices.Values(l))
	for i, x := range sorted {
		if x != i+1 {
			return false
		}
	}
	return len(l) == n
}

// areDifferent reports whether the elements of l are different numbers from 1 to n.
func areDifferent(l []int, n int) bool {
	seen := map[int]bool{}
	for _, x := range l {
		if x < 1 || x > n || seen[x] {
			return false
		}
		seen[x] = true
	}
	return true
}

// checkSame checks that a stream has generated as many values as its model, and that the next ones are equal.
func checkSame(t *testing.T, s *stream.Stream, m *model) {
	t.Helper()
	if s.Used() != m.used {
		t.Errorf("Used() = %d, want %d", s.Used(), m.used)
	}
	if got, want := s.Next(), m.next().Uint64(); got != want {
		t.Errorf("the next value is %x, want %x", got, want)
	}
}

// P9.1: published numbers of the generator SplitMix64.
func TestNextExamples(t *testing.T) {
	for seed, values := range map[uint64][]uint64{
		0:             {0xe220a8397b1dcdaf, 0x6e789e6aa1b965f4, 0x06c45d188009454f, 0xf88bb8a8724c81ec, 0x1b39896a51a8749b},
		1234567:       {6457827717110365317, 3203168211198807973, 9817491932198370423, 4593380528125082431, 16408922859458223821},
		1<<64 - gamma: {0, 0xe220a8397b1dcdaf},
		gamma:         {0x6e789e6aa1b965f4},
	} {
		s := stream.New(seed)
		if s.Used() != 0 {
			t.Errorf("a new stream has generated %d values", s.Used())
		}
		for i, want := range values {
			if got := s.Next(); got != want || s.Used() != i+1 {
				t.Errorf("value %d of the seed %d = %x, want %x; Used() = %d", i, seed, got, want, s.Used())
			}
		}
	}
}

// P9.1, R1: Next and Used for seeds at the edges; states wrap around.
func TestNext(t *testing.T) {
	for _, seed := range seeds() {
		s, m := stream.New(seed), modelOf(seed)
		for i := range 100 {
			if s.Used() != i || s.Used() != i {
				t.Errorf("seed %x: Used() = %d after %d values", seed, s.Used(), i)
			}
			if got, want := s.Next(), m.next().Uint64(); got != want {
				t.Errorf("value %d of the seed %x = %x, want %x", i, seed, got, want)
			}
		}
	}
}

// P9.1: a stream is where another one is later, and so is what comes from it; the values of a seed are different.
func TestNextOfLaterSeeds(t *testing.T) {
	s, seen := stream.New(1<<63), map[uint64]bool{}
	for i := range uint64(20000) {
		x := s.Next()
		if i%100 == 0 && stream.New(1<<63+i*gamma).Next() != x {
			t.Errorf("value %d is not the first one of a stream with its state", i)
		}
		if seen[x] {
			t.Errorf("value %d is generated again", i)
		}
		seen[x] = true
	}
	if s.Used() != 20000 {
		t.Errorf("Used() = %d", s.Used())
	}
}

// P9.2: the examples, and results as literals.
func TestBelowExamples(t *testing.T) {
	s := stream.New(0)
	for i, c := range []struct{ n, want int }{
		{1, 0},
		{10, 0},               // 7960286522194355700
		{49, 37},              // 487617019471545679
		{1 << 31, 0x724c81ec}, // 0xf88bb8a8724c81ec
		{1 << 8, 0x9b},        // 0x1b39896a51a8749b
	} {
		if got, e := s.Below(c.n); got != c.want || e != api.OK || s.Used() != i+1 {
			t.Errorf("Below(%d) = %d, %v, want %d; Used() = %d", c.n, got, e, c.want, s.Used())
		}
	}
}

// P9.2, R2: numbers that are out of range generate no value.
func TestBelowOutOfRange(t *testing.T) {
	s, m := stream.New(5), modelOf(5)
	for _, n := range []int{math.MinInt, math.MinInt + 1, -1 << 32, -1 << 31, -1<<31 - 1, -3, -2, -1, 0, 1<<31 + 1, 1<<31 + 2, 1<<32 - 1, 1 << 32, 1<<32 + 1, 1<<33 + 1, 1 << 62, math.MaxInt - 1, math.MaxInt} {
		if got, e := s.Below(n); got != 0 || e != api.ErrRange || s.Used() != 0 {
			t.Errorf("Below(%d) = %d, %v; Used() = %d", n, got, e, s.Used())
		}
	}
	checkSame(t, s, m)
}

// P9.2, R1: numbers at the edges and any others, on one stream and on new ones.
func TestBelow(t *testing.T) {
	ns := []int{1, 2, 3, 4, 5, 6, 7, 8, 9, 10, 49, 80, 4095, 4096, 4097, 10000, 1<<16 - 1, 1 << 16, 1<<31 - 2, 1<<31 - 1, 1 << 31, 274177, 2147443516}
	for bits := range 32 {
		ns = append(ns, 1<<bits)
	}
	r := rand.New(rand.NewPCG(9, 2))
	for range 200 {
		ns = append(ns, 1+r.IntN(1<<31), 1+r.IntN(100), 1+r.IntN(5000))
	}
	for _, seed := range seeds() {
		one, m := stream.New(seed), modelOf(seed)
		for _, n := range ns {
			got, e := one.Below(n)
			if want := m.below(n); got != want || e != api.OK || got < 0 || got >= n || one.Used() != m.used {
				t.Errorf("seed %x: Below(%d) = %d, %v, want %d; Used() = %d, want %d", seed, n, got, e, want, one.Used(), m.used)
			}
		}
		checkSame(t, one, m)
	}
	for _, n := range ns {
		seed := r.Uint64()
		s, m := stream.New(seed), modelOf(seed)
		got, e := s.Below(n)
		if want := m.below(n); got != want || e != api.OK {
			t.Errorf("seed %x: Below(%d) = %d, %v, want %d", seed, n, got, e, want)
		}
		checkSame(t, s, m)
	}
}

// P9.2: the values around the greatest multiple. What is not below it is followed by another value; powers of 2 use every value.
func TestBelowRejectsValues(t *testing.T) {
	for _, n := range []int{1, 2, 3, 5, 6, 7, 10, 49, 80, 1000, 1 << 16, 4094, 274177, 1<<30 + 1, 2147443516, 1<<31 - 2, 1<<31 - 1, 1 << 31} {
		first := -excess(n) // the multiple modulo 2^64
		values := []uint64{0, 1, uint64(n) - 1, uint64(n), 1 << 63, first - 1, first - 2, first - uint64(n), first, first + 1, first + excess(n)/2, 1<<64 - 2, 1<<64 - 1}
		for _, x := range values {
			checkBelowOf(t, n, x)
		}
	}
}

// checkBelowOf checks Below(n) if the first value is x.
func checkBelowOf(t *testing.T, n int, x uint64) {
	t.Helper()
	s := stream.New(seedFor(x, 1))
	second := stream.New(seedFor(x, 1) + gamma).Next()
	want, used := int(x%uint64(n)), 1
	if rest := excess(n); rest > 0 && x >= -rest {
		want, used = int(second%uint64(n)), 2
	}
	if got, e := s.Below(n); got != want || e != api.OK || s.Used() != used {
		t.Errorf("Below(%d) with the value %x first = %d, %v, want %d; Used() = %d, want %d", n, x, got, e, want, s.Used(), used)
	}
	m := modelOf(seedFor(x, 1))
	m.below(n)
	checkSame(t, s, m)
}

// P9.2: each result is possible, and about as frequent as the others.
func TestBelowGivesEachNumber(t *testing.T) {
	for n := 1; n <= 20; n++ {
		s, counts := stream.New(uint64(n)), make([]int, n)
		for range 1000 * n {
			i, _ := s.Below(n)
			counts[i]++
		}
		for i, count := range counts {
			if count < 800 || count > 1200 {
				t.Errorf("Below(%d) was %d %d times of %d", n, i, count, 1000*n)
			}
		}
	}
}

// P9.3: the example, and results as literals.
func TestShuffleExamples(t *testing.T) {
	s := stream.New(0)
	if s.Used() != 0 {
		t.Errorf("a new stream has generated %d values", s.Used())
	}
	l, e := s.Shuffle(5)
	if !isOrder(l, 5) || e != api.OK || s.Used() < 4 {
		t.Errorf("Shuffle(5) = %v, %v; Used() = %d", l, e, s.Used())
	}
	// The remainders of the first values of the seed 0 for 5, 4, 3 and 2 are 0, 0, 1 and 0.
	if want := []int{3, 4, 2, 5, 1}; !slices.Equal(l, want) || s.Used() != 4 {
		t.Errorf("Shuffle(5) = %v, want %v; Used() = %d", l, want, s.Used())
	}
}

// P9.3, R2: numbers that are out of range generate no value, nor do 0 and 1.
func TestShuffleEdges(t *testing.T) {
	s, m := stream.New(6), modelOf(6)
	for _, n := range []int{math.MinInt, math.MinInt + 1, -1 << 32, -4096, -2, -1, 4097, 4098, 8192, 1 << 31, 1 << 32, 1<<32 + 1, math.MaxInt} {
		if l, e := s.Shuffle(n); len(l) != 0 || e != api.ErrRange || s.Used() != 0 {
			t.Errorf("Shuffle(%d) = %v, %v; Used() = %d", n, l, e, s.Used())
		}
	}
	for n := range 2 {
		if l, e := s.Shuffle(n); !isOrder(l, n) || e != api.OK || s.Used() != 0 {
			t.Errorf("Shuffle(%d) = %v, %v; Used() = %d", n, l, e, s.Used())
		}
	}
	checkSame(t, s, m)
}

// P9.3, R1: Shuffle exchanges elements in the order of the chapter, and generates n - 1 values where all of them are used.
func TestShuffle(t *testing.T) {
	for _, seed := range seeds() {
		s, m := stream.New(seed), modelOf(seed)
		for _, n := range []int{0, 1, 2, 3, 4, 5, 6, 7, 8, 16, 49, 80} {
			before := s.Used()
			l, e := s.Shuffle(n)
			if want := m.shuffle(n); !slices.Equal(l, want) || !isOrder(l, n) || e != api.OK {
				t.Errorf("seed %x: Shuffle(%d) = %v, %v, want %v", seed, n, l, e, want)
			}
			if used := s.Used() - before; used != max(n-1, 0) {
				t.Errorf("seed %x: Shuffle(%d) generated %d values", seed, n, used)
			}
		}
		checkSame(t, s, m)
	}
	for _, n := range []int{1000, 2047, 4095, 4096} {
		s, m := stream.New(uint64(n)), modelOf(uint64(n))
		l, e := s.Shuffle(n)
		if !slices.Equal(l, m.shuffle(n)) || !isOrder(l, n) || e != api.OK || s.Used() != n-1 {
			t.Errorf("Shuffle(%d): %v; Used() = %d", n, e, s.Used())
		}
		checkSame(t, s, m)
	}
}

// P9.3: each order is possible.
func TestShuffleGivesEachOrder(t *testing.T) {
	for n, want := range []int{1, 1, 2, 6, 24, 120} {
		s, counts := stream.New(3), map[[5]int]int{}
		for range 400 * want {
			l, _ := s.Shuffle(n)
			counts[[5]int(append(l, make([]int, 5-n)...))]++
		}
		if len(counts) != want {
			t.Errorf("%d orders of %d numbers, want %d", len(counts), n, want)
		}
		for l, count := range counts {
			if count < 300 || count > 500 {
				t.Errorf("the order %v of %d numbers came %d times of %d", l, n, count, 400*want)
			}
		}
	}
}

// P9.4: the examples, and results as literals.
func TestSampleExamples(t *testing.T) {
	s := stream.New(0)
	if l, e := s.Sample(3, 4); len(l) != 0 || e != api.ErrRange || s.Used() != 0 {
		t.Errorf("Sample(3, 4) = %v, %v; Used() = %d", l, e, s.Used())
	}
	// The remainders of the first values of the seed 0 for 49, 48, 47, 46, 45 and 44 are 16, 36, 23, 36, 22 and 26.
	s = stream.New(0)
	want := []int{17, 38, 26, 40, 27, 32}
	l, e := s.Sample(49, 6)
	if !slices.Equal(l, want) || e != api.OK || s.Used() != 6 {
		t.Errorf("Sample(49, 6) = %v, %v, want %v; Used() = %d", l, e, want, s.Used())
	}
}

// P9.4, R2: numbers that are out of range generate no value, nor do samples of no elements.
func TestSampleEdges(t *testing.T) {
	s, m := stream.New(6), modelOf(6)
	for _, c := range []struct{ n, k int }{
		{-1, -1}, {-1, 0}, {-1, 1}, {-2, -3}, {-5, -5}, {math.MinInt, math.MinInt}, {math.MinInt, 0}, {math.MinInt, math.MaxInt}, {math.MaxInt, math.MinInt},
		{0, -1}, {0, 1}, {0, 2}, {1, -1}, {1, 2}, {2, -1}, {2, 3}, {5, -1}, {5, 6}, {5, 1 << 32}, {5, math.MinInt}, {5, math.MaxInt},
		{4096, -1}, {4096, 4097}, {4096, math.MaxInt}, {4097, -1}, {4097, 0}, {4097, 1}, {4097, 4096}, {4097, 4097}, {4097, 4098}, {1 << 31, 6}, {1<<32 + 5, 3}, {math.MaxInt, 0}, {math.MaxInt, 1}, {math.MaxInt, math.MaxInt},
	} {
		if l, e := s.Sample(c.n, c.k); len(l) != 0 || e != api.ErrRange || s.Used() != 0 {
			t.Errorf("Sample(%d, %d) = %v, %v; Used() = %d", c.n, c.k, l, e, s.Used())
		}
	}
	for _, n := range []int{0, 1, 2, 49, 4096} {
		if l, e := s.Sample(n, 0); len(l) != 0 || e != api.OK || s.Used() != 0 {
			t.Errorf("Sample(%d, 0) = %v, %v; Used() = %d", n, l, e, s.Used())
		}
	}
	checkSame(t, s, m)
	s = stream.New(7)
	if l, e := s.Sample(1, 1); !slices.Equal(l, []int{1}) || e != api.OK || s.Used() != 1 {
		t.Errorf("Sample(1, 1) = %v, %v; Used() = %d", l, e, s.Used())
	}
}

// P9.4, R1: Sample exchanges elements in the order of the chapter, and generates k values where all of them are used.
func TestSample(t *testing.T) {
	for _, seed := range seeds() {
		s, m := stream.New(seed), modelOf(seed)
		for _, n := range []int{0, 1, 2, 3, 4, 5, 6, 7, 8, 16, 49} {
			for _, k := range []int{0, 1, 2, 3, n / 2, n - 2, n - 1, n} {
				if k < 0 || k > n {
					continue
				}
				checkSample(t, s, m, n, k)
			}
		}
		checkSame(t, s, m)
	}
	for _, k := range []int{0, 1, 2, 10, 2048, 4094, 4095, 4096} {
		s, m := stream.New(uint64(k)), modelOf(uint64(k))
		checkSample(t, s, m, 4096, k)
		checkSample(t, s, m, max(k, 4000), min(k, 100))
		checkSame(t, s, m)
	}
}

// checkSample compares Sample(n, k) with the model.
func checkSample(t *testing.T, s *stream.Stream, m *model, n, k int) {
	t.Helper()
	before := s.Used()
	l, e := s.Sample(n, k)
	if want := m.sample(n, k); !slices.Equal(l, want) || !areDifferent(l, n) || e != api.OK {
		t.Errorf("Sample(%d, %d) = %v, %v, want %v", n, k, l, e, want)
	}
	if used := s.Used() - before; used != k {
		t.Errorf("Sample(%d, %d) generated %d values", n, k, used)
	}
}

// P9.4: a sample of fewer elements from the same state is a prefix.
func TestSamplePrefix(t *testing.T) {
	for _, seed := range seeds()[:20] {
		for _, n := range []int{1, 2, 3, 10, 49, 80} {
			all, _ := stream.New(seed).Sample(n, n)
			if !isOrder(all, n) {
				t.Errorf("seed %x: Sample(%d, %d) = %v", seed, n, n, all)
			}
			for k := range n + 1 {
				s := stream.New(seed)
				if l, e := s.Sample(n, k); !slices.Equal(l, all[:k]) || e != api.OK || s.Used() != k {
					t.Errorf("seed %x: Sample(%d, %d) = %v, %v, want %v; Used() = %d", seed, n, k, l, e, all[:k], s.Used())
				}
			}
		}
	}
	whole, _ := stream.New(1<<63).Sample(4096, 4096)
	for _, k := range []int{1, 2, 1000, 4095} {
		if l, _ := stream.New(1<<63).Sample(4096, k); !slices.Equal(l, whole[:k]) {
			t.Errorf("Sample(4096, %d) is not a prefix", k)
		}
	}
}

// P9.4: each sample is possible, in each order.
func TestSampleGivesEachOrder(t *testing.T) {
	s, counts := stream.New(4), map[[3]int]int{}
	for range 60 * 400 {
		l, _ := s.Sample(5, 3)
		counts[[3]int(l)]++
	}
	if len(counts) != 60 {
		t.Errorf("%d samples of 3 of 5, want 60", len(counts))
	}
	for l, count := range counts {
		if count < 300 || count > 500 {
			t.Errorf("the sample %v came %d times of %d", l, count, 60*400)
		}
	}
}

// P9.3, P9.4: where one of the values is not below the multiple, one more is generated, and the results are those of the next values.
func TestListsRejectValues(t *testing.T) {
	for number := 1; number <= 48; number++ {
		seed := seedFor(1<<64-1, number)
		s, m := stream.New(seed), modelOf(seed)
		l, e := s.Shuffle(49)
		used := 48
		if n := 50 - number; excess(n) > 0 {
			used = 49
		}
		if want := m.shuffle(49); !slices.Equal(l, want) || e != api.OK || s.Used() != used {
			t.Errorf("Shuffle(49) with value %d the greatest one = %v, %v, want %v; Used() = %d, want %d", number, l, e, want, s.Used(), used)
		}
		checkSame(t, s, m)
		s, m = stream.New(seed), modelOf(seed)
		l, e = s.Sample(49, 48)
		if want := m.sample(49, 48); !slices.Equal(l, want) || e != api.OK || s.Used() != used {
			t.Errorf("Sample(49, 48) with value %d the greatest one = %v, %v, want %v; Used() = %d, want %d", number, l, e, want, s.Used(), used)
		}
		checkSame(t, s, m)
	}
}

// A call makes one call on a stream, and returns all its results in a list.
type call func(s *stream.Stream) []int

// calls are any calls of several kinds, valid and invalid ones, the same for one seed.
func calls(seed uint64, count int) []call {
	r := rand.New(rand.NewPCG(9, seed))
	l := []call{}
	for range count {
		n, k := r.IntN(60)-2, r.IntN(60)-2
		large := r.IntN(1<<32) - 1<<10
		l = append(l, []call{
			func(s *stream.Stream) []int { return []int{int(s.Next())} },
			func(s *stream.Stream) []int { return results(s.Below(n)) },
			func(s *stream.Stream) []int { return results(s.Below(large)) },
			func(s *stream.Stream) []int { return listResults(s.Shuffle(n)) },
			func(s *stream.Stream) []int { return listResults(s.Sample(n, k)) },
			func(s *stream.Stream) []int { return []int{s.Used()} },
		}[r.IntN(6)])
	}
	return l
}

// results are those of Below.
func results(n int, e api.Errno) []int {
	return []int{n, int(e)}
}

// listResults are those of Shuffle and Sample.
func listResults(l []int, e api.Errno) []int {
	return append(l, int(e))
}

// P9.5, R3, R7: calls of several kinds on two streams with one seed; calls on other streams in between, and changes of what they returned, make no difference.
func TestSameCalls(t *testing.T) {
	for i, seed := range seeds() {
		one, two, other := stream.New(seed), stream.New(seed), stream.New(seed+1)
		alone := [][]int{}
		for _, f := range calls(uint64(i), 100) {
			alone = append(alone, slices.Clone(f(one)))
		}
		for j, f := range calls(uint64(i), 100) {
			overwrite(f(other))
			l := f(two)
			if !slices.Equal(l, alone[j]) {
				t.Errorf("seed %x: the results of call %d are %v and %v", seed, j, alone[j], l)
			}
			overwrite(l)
		}
		if one.Used() != two.Used() || one.Next() != two.Next() {
			t.Errorf("seed %x: the streams differ after the same calls", seed)
		}
	}
}

// overwrite changes l and its spare capacity.
func overwrite(l []int) {
	for i := range l[:cap(l)] {
		l[:cap(l)][i] = -1
	}
}

// P9.1 to P9.5: calls of several kinds one after the other have the results of the model.
func TestCallsOfSeveralKinds(t *testing.T) {
	for _, seed := range seeds()[:30] {
		s, m := stream.New(seed), modelOf(seed)
		for n := 1; n < 20; n++ {
			if got, want := s.Next(), m.next().Uint64(); got != want {
				t.Errorf("seed %x: Next() = %x, want %x", seed, got, want)
			}
			if got, e := s.Below(n * n * n); got != m.below(n*n*n) || e != api.OK {
				t.Errorf("seed %x: Below(%d) = %d, %v", seed, n*n*n, got, e)
			}
			if _, e := s.Below(-n); e != api.ErrRange {
				t.Errorf("seed %x: Below(%d): %v", seed, -n, e)
			}
			if l, e := s.Shuffle(n); !slices.Equal(l, m.shuffle(n)) || e != api.OK {
				t.Errorf("seed %x: Shuffle(%d) = %v, %v", seed, n, l, e)
			}
			if _, e := s.Shuffle(4096 + n); e != api.ErrRange {
				t.Errorf("seed %x: Shuffle(%d): %v", seed, 4096+n, e)
			}
			if l, e := s.Sample(2*n, n); !slices.Equal(l, m.sample(2*n, n)) || e != api.OK {
				t.Errorf("seed %x: Sample(%d, %d) = %v, %v", seed, 2*n, n, l, e)
			}
			if _, e := s.Sample(n, n+1); e != api.ErrRange {
				t.Errorf("seed %x: Sample(%d, %d): %v", seed, n, n+1, e)
			}
			if s.Used() != m.used {
				t.Errorf("seed %x: Used() = %d, want %d", seed, s.Used(), m.used)
			}
		}
		checkSame(t, s, m)
	}
}

// R3: results are new memory: changes of one of them, and of its spare capacity, change no other one, before and after, and not the stream.
func TestListsAreNewMemory(t *testing.T) {
	for name, f := range map[string]func(*stream.Stream) ([]int, api.Errno){
		"Shuffle(20)":    func(s *stream.Stream) ([]int, api.Errno) { return s.Shuffle(20) },
		"Shuffle(1)":     func(s *stream.Stream) ([]int, api.Errno) { return s.Shuffle(1) },
		"Sample(20, 0)":  func(s *stream.Stream) ([]int, api.Errno) { return s.Sample(20, 0) },
		"Sample(20, 6)":  func(s *stream.Stream) ([]int, api.Errno) { return s.Sample(20, 6) },
		"Sample(20, 20)": func(s *stream.Stream) ([]int, api.Errno) { return s.Sample(20, 20) },
	} {
		s, same := stream.New(8), stream.New(8)
		first, _ := f(s)
		kept, _ := f(s)
		want, _ := f(same)
		if !slices.Equal(first, want) {
			t.Errorf("%s = %v and %v", name, first, want)
		}
		want, _ = f(same)
		overwrite(first)
		if !slices.Equal(kept, want) {
			t.Errorf("%s = %v, then %v", name, want, kept)
		}
		later, _ := f(s)
		want, _ = f(same)
		if !slices.Equal(later, want) {
			t.Errorf("%s after a change = %v, want %v", name, later, want)
		}
		if s.Used() != same.Used() || s.Next() != same.Next() {
			t.Errorf("%s: the stream has changed with a result", name)
		}
	}
}

// R4: a nil stream, for valid arguments and others.
func TestNilStream(t *testing.T) {
	var s *stream.Stream
	for range 2 {
		if x, used := s.Next(), s.Used(); x != 0 || used != 0 {
			t.Errorf("Next() = %d, Used() = %d", x, used)
		}
		for _, n := range []int{math.MinInt, -1, 0, 1, 2, 5, 4096, 4097, 1 << 31, 1<<31 + 1, math.MaxInt} {
			if x, e := s.Below(n); x != 0 || e != api.ErrNone {
				t.Errorf("Below(%d) = %d, %v", n, x, e)
			}
			if l, e := s.Shuffle(n); len(l) != 0 || e != api.ErrNone {
				t.Errorf("Shuffle(%d) = %v, %v", n, l, e)
			}
			for _, k := range []int{math.MinInt, -1, 0, 1, n, math.MaxInt} {
				if l, e := s.Sample(n, k); len(l) != 0 || e != api.ErrNone {
					t.Errorf("Sample(%d, %d) = %v, %v", n, k, l, e)
				}
			}
		}
	}
}

// R1, R4: a stream that New did not return does not panic.
func TestPlainStream(t *testing.T) {
	s := &stream.Stream{}
	s.Next()
	s.Used()
	s.Below(5)
	s.Below(0)
	s.Shuffle(5)
	s.Shuffle(-1)
	s.Sample(5, 2)
	s.Sample(2, 5)
}
