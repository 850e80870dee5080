package stream

import (
	"slices"
	"testing"

	"lottery/api"
)

// generated makes a step that returns the given values one after the other, then the last one again and again, and counts them.
func generated(values ...uint64) (next func() uint64, count *int) {
	count = new(int)
	next = func() uint64 {
		*count++
		return values[min(*count, len(values))-1]
	}
	return next, count
}

// choosing makes a choice of 0 that fails when it is made for that number of times, and lists what it was made of.
func choosing(fails int) (choose choice, made *[]int) {
	made = new([]int)
	choose = func(n int) (int, api.Errno) {
		*made = append(*made, n)
		if len(*made) == fails {
			return 0, api.ErrBudget
		}
		return 0, api.OK
	}
	return choose, made
}

// P9.3, P9.4, R2: an error of Below ends a call at once.
func TestErrorOfBelow(t *testing.T) {
	for fails := 1; fails <= 4; fails++ {
		choose, made := choosing(fails)
		if l, e := shuffle(5, choose); len(l) != 0 || e != api.ErrBudget || !slices.Equal(*made, []int{5, 4, 3, 2}[:fails]) {
			t.Errorf("shuffle where choice %d fails: %v, %v, choices of %v", fails, l, e, *made)
		}
		choose, made = choosing(fails)
		if l, e := sample(9, 4, choose); len(l) != 0 || e != api.ErrBudget || !slices.Equal(*made, []int{9, 8, 7, 6}[:fails]) {
			t.Errorf("sample where choice %d fails: %v, %v, choices of %v", fails, l, e, *made)
		}
	}
	choose, made := choosing(0)
	if l, e := shuffle(4, choose); !slices.Equal(l, []int{2, 3, 4, 1}) || e != api.OK || !slices.Equal(*made, []int{4, 3, 2}) {
		t.Errorf("shuffle where the first element is always chosen: %v, %v, choices of %v", l, e, *made)
	}
	choose, made = choosing(0)
	if l, e := sample(4, 3, choose); !slices.Equal(l, []int{1, 2, 3}) || e != api.OK || !slices.Equal(*made, []int{4, 3, 2}) {
		t.Errorf("sample where the first element is always chosen: %v, %v, choices of %v", l, e, *made)
	}
}

// P9.2: the budget. No seed makes two values in a row that are not below the multiple of any n (a search through all first values that are not found none), so the values are given here.
func TestBudget(t *testing.T) {
	const last = 1<<64 - 1
	for _, rejected := range []int{0, 1, 2, 62, 63, 64, 65, 200} {
		for _, n := range []uint64{3, 5, 7, 10, 49, 1<<31 - 1} {
			values := make([]uint64, rejected, rejected+1)
			for i := range values {
				values[i] = last
			}
			next, count := generated(append(values, n+2)...)
			want, e, used := 2, api.OK, rejected+1
			if rejected >= api.MaxTries {
				want, e, used = 0, api.ErrBudget, api.MaxTries
			}
			if got, gotErr := below(n, next); got != want || gotErr != e || *count != used {
				t.Errorf("%d with %d values that are not below the multiple: %d, %v and %d values, want %d, %v and %d", n, rejected, got, gotErr, *count, want, e, used)
			}
		}
	}
}

// P9.2: the values around the greatest multiple.
func TestMultiple(t *testing.T) {
	for _, c := range []struct{ n, multiple uint64 }{
		{3, 1<<64 - 1},
		{5, 1<<64 - 1},
		{6, 1<<64 - 4},
		{7, 1<<64 - 2},
		{10, 18446744073709551610},
		{49, 1<<64 - 2},
		{1000, 18446744073709551000},
		{2147483647, 18446744073709551612},
		{2147483646, 18446744073709551600},
		{274177, 18446744073709277440},
		{2147443516, 18446744071562128952},
	} {
		next, count := generated(c.multiple, 1<<64-1, c.multiple-1, 0)
		if got, e := below(c.n, next); got != int(c.n-1) || e != api.OK || *count != 3 {
			t.Errorf("%d with the multiple and the number before it: %d, %v and %d values", c.n, got, e, *count)
		}
	}
	for bits := range 32 {
		next, count := generated(1<<64 - 1)
		if got, e := below(1<<bits, next); got != 1<<bits-1 || e != api.OK || *count != 1 {
			t.Errorf("2^%d with the greatest value: %d, %v and %d values", bits, got, e, *count)
		}
	}
}
