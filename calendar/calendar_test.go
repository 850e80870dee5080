package calendar_test

import (
	"fmt"
	"math"
	"math/big"
	"math/rand/v2"
	"slices"
	"strings"
	"testing"
	"time"

	"lottery/api"
	"lottery/calendar"
)

const (
	minutes = 1440
	last    = api.MaxDay - 1
	most    = api.MaxTime
)

// civil returns the midnight at which a day begins, for any day near those of the calendar.
func civil(day int) time.Time {
	return time.Date(2000, time.January, 1+day, 0, 0, 0, 0, time.UTC)
}

// dayOf returns the number of the day with a date; time.Date brings a date that does not exist into form.
func dayOf(y, m, d int) int {
	seconds := time.Date(y, time.Month(m), d, 0, 0, 0, 0, time.UTC).Unix() - civil(0).Unix()
	return int(seconds / 86400)
}

// exists tells whether there is a date: time.Date makes another one of those that do not exist.
func exists(y, m, d int) bool {
	t := time.Date(y, time.Month(m), d, 0, 0, 0, 0, time.UTC)
	return t.Year() == y && int(t.Month()) == m && t.Day() == d
}

// weekdayOf returns the weekday of a day, from 0 (Monday) on.
func weekdayOf(day int) int {
	return (int(civil(day).Weekday()) + 6) % 7
}

// textOf returns the text of a time.
func textOf(t int) string {
	return civil(t / minutes).Add(time.Duration(t%minutes) * time.Minute).Format("2006-01-02 15:04")
}

// far are ints that are far from all numbers of a calendar, some of which would be near to them if products with them wrapped around.
func far() []int {
	l := []int{math.MinInt, math.MinInt + 1, math.MaxInt - 1, math.MaxInt}
	for _, shift := range []int{8, 16, 31, 32, 33, 48, 60, 61, 62} {
		for _, near := range []int{-2001, -1, 0, 1, 2, 28, 2000, 2024, 4041} {
			l = append(l, 1<<shift+near+2500, -1<<shift-near-2500, 1<<shift*minutes+near+2500)
		}
	}
	return append(l, wrapping()...)
}

// wrapping are years with so many days before them that their number modulo 2^64 is that of a day.
func wrapping() []int {
	l := []int{}
	for rounds := -100; rounds <= 100; rounds++ {
		years := new(big.Int).Lsh(big.NewInt(int64(rounds)*400), 64)
		years.Div(years, big.NewInt(146097))
		if years.Add(years, big.NewInt(3000)); years.IsInt64() && rounds != 0 {
			l = append(l, int(years.Int64()))
		}
	}
	return l
}

// otherDays are ints that are not days.
func otherDays() []int {
	l := []int{-1, -2, -5, -365, -366, -730, -1440, -146097, api.MaxDay, api.MaxDay + 1, api.MaxDay + 365, 2 * api.MaxDay, most, most + 1}
	for _, n := range far() {
		if n < 0 || n > last {
			l = append(l, n)
		}
	}
	return l
}

// otherTimes are ints that are not times.
func otherTimes() []int {
	l := []int{-1, -2, -1439, -1440, -1441, -2880, -7200, most + 1, most + 2, most + 1439, most + 1440, 2 * most}
	for _, n := range far() {
		if n < 0 || n > most {
			l = append(l, n)
		}
	}
	return l
}

// someTimes are times at the edges and anywhere, the same in each run.
func someTimes(count int) []int {
	l := []int{0, 1, 2, 59, 60, 61, 719, 720, 1438, 1439, 1440, 1441, 2879, 2880, 2881, most / 2, last * minutes, last*minutes + 1439, api.MaxDay * minutes}
	for t := most - 200; t <= most; t++ {
		l = append(l, t)
	}
	r := rand.New(rand.NewPCG(6, 1))
	for range count {
		l = append(l, r.IntN(most+1))
	}
	return l
}

// dates are dates with their days.
var dates = []struct{ y, m, d, day int }{
	{2000, 1, 1, 0},
	{2000, 1, 2, 1},
	{2000, 1, 31, 30},
	{2000, 2, 1, 31},
	{2000, 2, 28, 58},
	{2000, 2, 29, 59},
	{2000, 3, 1, 60},
	{2000, 12, 31, 365},
	{2001, 1, 1, 366},
	{2001, 2, 28, 424},
	{2001, 3, 1, 425},
	{2004, 2, 29, 1520},
	{2024, 2, 29, 8825},
	{2026, 11, 20, 9820},
	{2100, 2, 28, 36583},
	{2100, 3, 1, 36584},
	{2400, 2, 29, 146156},
	{2400, 3, 1, 146157},
	{3000, 2, 28, 365301},
	{3000, 3, 1, 365302},
	{4000, 2, 29, 730544},
	{4000, 12, 31, 730850},
	{4041, 1, 1, 745461},
	{4041, 6, 30, 745641},
	{4041, 7, 11, 745652},
	{4041, 7, 12, 745653},
}

// noDates are dates that do not exist, or that are not those of a day.
func noDates() [][3]int {
	l := [][3]int{
		{1999, 12, 31}, {1999, 1, 1}, {1996, 2, 29}, {1970, 1, 1}, {1900, 2, 29}, {1600, 2, 29}, {400, 1, 1}, {1, 1, 1}, {0, 1, 1}, {0, 0, 0}, {-1, 1, 1}, {-400, 2, 29}, {-2000, 1, 1},
		{4041, 7, 13}, {4041, 7, 14}, {4041, 7, 31}, {4041, 8, 1}, {4041, 12, 31}, {4042, 1, 1}, {4400, 2, 29}, {9999, 12, 31}, {10000, 1, 1}, {20000, 1, 1},
		{2001, 2, 29}, {2002, 2, 29}, {2003, 2, 29}, {2023, 2, 29}, {2025, 2, 29}, {2100, 2, 29}, {2200, 2, 29}, {2300, 2, 29}, {2500, 2, 29}, {3000, 2, 29}, {4001, 2, 29},
		{2000, 2, 30}, {2000, 2, 31}, {2004, 2, 30}, {2400, 2, 30}, {2000, 4, 31}, {2000, 6, 31}, {2000, 9, 31}, {2000, 11, 31}, {2000, 12, 32}, {2000, 1, 32},
		{2000, 0, 1}, {2000, 13, 1}, {2000, 0, 31}, {2000, 13, 31}, {2000, 14, 1}, {2000, -1, 1}, {2000, 12, 0}, {2000, 1, 0}, {2000, 3, 0}, {2001, 1, 0}, {2001, 3, 0}, {2000, 1, -1}, {2001, 1, -365}, {2000, 1, 60}, {2000, 2, 60},
	}
	for _, n := range far() {
		l = append(l, [3]int{n, 1, 1}, [3]int{n, 2, 29}, [3]int{n, 12, 31}, [3]int{2024, n, 1}, [3]int{2024, 1, n}, [3]int{n, n, n}, [3]int{2024, n, n}, [3]int{n, n, 1}, [3]int{n, 1, n})
	}
	return slices.DeleteFunc(l, func(c [3]int) bool { return exists(c[0], c[1], c[2]) && c[0] >= 2000 && c[0] <= 4040 })
}

// P6.1
func TestDay(t *testing.T) {
	for _, c := range dates {
		if day, e := calendar.Day(c.y, c.m, c.d); day != c.day || e != api.OK {
			t.Errorf("Day(%d, %d, %d): %d, %v, not %d", c.y, c.m, c.d, day, e, c.day)
		}
	}
}

// P6.1, R1, R2, R8
func TestDayOfNoDate(t *testing.T) {
	for _, c := range noDates() {
		if day, e := calendar.Day(c[0], c[1], c[2]); day != 0 || e != api.ErrRange {
			t.Errorf("Day(%d, %d, %d): %d, %v, not %v", c[0], c[1], c[2], day, e, api.ErrRange)
		}
	}
}

// P6.1
func TestDate(t *testing.T) {
	for _, c := range dates {
		if y, m, d, e := calendar.Date(c.day); y != c.y || m != c.m || d != c.d || e != api.OK {
			t.Errorf("Date(%d): %d, %d, %d, %v, not %d, %d, %d", c.day, y, m, d, e, c.y, c.m, c.d)
		}
	}
	for _, day := range otherDays() {
		if y, m, d, e := calendar.Date(day); y != 0 || m != 0 || d != 0 || e != api.ErrRange {
			t.Errorf("Date(%d): %d, %d, %d, %v, not %v", day, y, m, d, e, api.ErrRange)
		}
	}
}

// P6.1
func TestWeekday(t *testing.T) {
	for _, c := range []struct{ day, weekday int }{
		{0, 5}, {1, 6}, {2, 0}, {3, 1}, {4, 2}, {5, 3}, {6, 4}, {7, 5}, {8, 6}, {9, 0},
		{59, 1}, {9820, 4}, {36583, 6}, {36584, 0}, {146156, 1}, {last - 1, 3}, {last, 4},
	} {
		if weekday, e := calendar.Weekday(c.day); weekday != c.weekday || e != api.OK {
			t.Errorf("Weekday(%d): %d, %v, not %d", c.day, weekday, e, c.weekday)
		}
	}
	for _, day := range otherDays() {
		if weekday, e := calendar.Weekday(day); weekday != 0 || e != api.ErrRange {
			t.Errorf("Weekday(%d): %d, %v, not %v", day, weekday, e, api.ErrRange)
		}
	}
}

// P6.1, P6.2: all days, each a day later than the one before.
func TestAllDays(t *testing.T) {
	at := civil(0)
	for day := range api.MaxDay {
		y, m, d, e := calendar.Date(day)
		if e != api.OK || y != at.Year() || m != int(at.Month()) || d != at.Day() {
			t.Fatalf("Date(%d): %d, %d, %d, %v, not %v", day, y, m, d, e, at)
		}
		if back, e := calendar.Day(y, m, d); back != day || e != api.OK {
			t.Fatalf("Day(%d, %d, %d): %d, %v, not %d", y, m, d, back, e, day)
		}
		if weekday, e := calendar.Weekday(day); weekday != (int(at.Weekday())+6)%7 || e != api.OK {
			t.Fatalf("Weekday(%d): %d, %v, not that of a %v", day, weekday, e, at.Weekday())
		}
		at = at.AddDate(0, 0, 1)
	}
}

// P6.1, P6.2: all dates, and others that look like one.
func TestAllDates(t *testing.T) {
	count := 0
	for y := 1990; y <= 4050; y++ {
		for m := -1; m <= 14; m++ {
			for d := -1; d <= 33; d++ {
				day, e := calendar.Day(y, m, d)
				if exact := dayOf(y, m, d); exists(y, m, d) && exact >= 0 && exact <= last {
					count++
					if day != exact || e != api.OK {
						t.Fatalf("Day(%d, %d, %d): %d, %v, not %d", y, m, d, day, e, exact)
					}
				} else if day != 0 || e != api.ErrRange {
					t.Fatalf("Day(%d, %d, %d): %d, %v, not %v", y, m, d, day, e, api.ErrRange)
				}
			}
		}
	}
	if count != api.MaxDay {
		t.Errorf("%d dates, not %d", count, api.MaxDay)
	}
}

// P6.3
func TestAge(t *testing.T) {
	for _, c := range []struct{ by, bm, bd, y, m, d, age int }{
		{2000, 1, 1, 2000, 1, 1, 0},
		{2000, 1, 1, 2000, 12, 31, 0},
		{2000, 1, 1, 2001, 1, 1, 1},
		{2000, 1, 1, 4041, 7, 12, 2041},
		{2000, 2, 29, 2000, 2, 29, 0},
		{2000, 2, 29, 2001, 2, 28, 0},
		{2000, 2, 29, 2001, 3, 1, 1},
		{2000, 2, 29, 2004, 2, 28, 3},
		{2000, 2, 29, 2004, 2, 29, 4},
		{2000, 2, 29, 2004, 3, 1, 4},
		{2000, 2, 29, 2018, 2, 28, 17},
		{2000, 2, 29, 2018, 3, 1, 18},
		{2000, 2, 29, 2100, 2, 28, 99},
		{2000, 2, 29, 2100, 3, 1, 100},
		{2000, 2, 29, 2400, 2, 28, 399},
		{2000, 2, 29, 2400, 2, 29, 400},
		{2001, 3, 1, 2004, 2, 29, 2},
		{2001, 3, 1, 2004, 3, 1, 3},
		{2003, 2, 28, 2004, 2, 28, 1},
		{2003, 2, 28, 2004, 2, 27, 0},
		{2003, 2, 28, 2004, 2, 29, 1},
		{2008, 11, 20, 2026, 11, 19, 17},
		{2008, 11, 20, 2026, 11, 20, 18},
		{2008, 11, 20, 2026, 11, 21, 18},
		{2008, 11, 20, 2026, 12, 1, 18},
		{2008, 11, 20, 2026, 10, 31, 17},
		{2008, 11, 20, 2027, 1, 1, 18},
		{2000, 12, 31, 2001, 1, 1, 0},
		{2000, 12, 31, 2001, 12, 30, 0},
		{2000, 12, 31, 2001, 12, 31, 1},
		{4040, 7, 12, 4041, 7, 11, 0},
		{4040, 7, 12, 4041, 7, 12, 1},
		{4040, 7, 13, 4041, 7, 12, 0},
		{4041, 7, 12, 4041, 7, 12, 0},
	} {
		birth, day := dayOf(c.by, c.bm, c.bd), dayOf(c.y, c.m, c.d)
		if age, e := calendar.Age(birth, day); age != c.age || e != api.OK {
			t.Errorf("Age(%d, %d): %d, %v, not %d", birth, day, age, e, c.age)
		}
	}
}

// P6.3
func TestAgeOfOthers(t *testing.T) {
	for _, c := range [][2]int{{1, 0}, {366, 0}, {60, 59}, {last, 0}, {last, last - 1}, {10, -1}, {0, -1}, {-1, -1}, {-1, -2}, {api.MaxDay, api.MaxDay}, {api.MaxDay, api.MaxDay + 400}, {last, api.MaxDay}, {0, api.MaxDay}, {-1, 0}, {-1, last}, {-1, api.MaxDay}, {math.MinInt, math.MaxInt}} {
		if age, e := calendar.Age(c[0], c[1]); age != 0 || e != api.ErrRange {
			t.Errorf("Age(%d, %d): %d, %v, not %v", c[0], c[1], age, e, api.ErrRange)
		}
	}
	for _, other := range otherDays() {
		for _, day := range []int{0, 59, 1000, last, other} {
			if age, e := calendar.Age(other, day); age != 0 || e != api.ErrRange {
				t.Errorf("Age(%d, %d): %d, %v, not %v", other, day, age, e, api.ErrRange)
			}
			if age, e := calendar.Age(day, other); age != 0 || e != api.ErrRange {
				t.Errorf("Age(%d, %d): %d, %v, not %v", day, other, age, e, api.ErrRange)
			}
		}
	}
}

// births are days at the edges of months and years, and any others.
func births() []int {
	l := []int{0, 1, 30, 31, 58, 59, 60, 364, 365, 366, 424, 425, 1519, 1520, 1521, dayOf(2096, 2, 29), dayOf(2100, 2, 28), dayOf(2100, 3, 1), dayOf(2400, 2, 29), dayOf(3999, 12, 31), dayOf(4040, 2, 29), last - 366, last - 365, last - 1, last}
	r := rand.New(rand.NewPCG(6, 3))
	for range 5 {
		l = append(l, r.IntN(api.MaxDay))
	}
	return l
}

// P6.3: an age grows by one on each birthday, and on no other day. That of 29 February is on 1 March in other years: the days of time.Date go on there.
func TestAgeGrows(t *testing.T) {
	for _, birth := range births() {
		at := civil(birth)
		birthday := func(age int) int {
			return dayOf(at.Year()+age, int(at.Month()), at.Day())
		}
		age, next := 0, birthday(1)
		for day := birth; day <= last; day++ {
			if day == next {
				age++
				next = birthday(age + 1)
			}
			if years, e := calendar.Age(birth, day); years != age || e != api.OK {
				t.Fatalf("Age(%d, %d): %d, %v, not %d", birth, day, years, e, age)
			}
		}
	}
}

// P6.3: whoever is born earlier is not younger.
func TestAgeByBirth(t *testing.T) {
	for _, day := range []int{59, 60, 424, 425, 1520, 9820, 36583, 36584} {
		before := math.MaxInt
		for birth := range day + 1 {
			age, e := calendar.Age(birth, day)
			if e != api.OK || age > before || before-age > 1 && birth > 0 {
				t.Fatalf("Age(%d, %d): %d, %v, after %d", birth, day, age, e, before)
			}
			before = age
		}
		if before != 0 {
			t.Errorf("Age(%d, %d): %d", day, day, before)
		}
	}
}

// P6.4
func TestPeriod(t *testing.T) {
	const (
		end   = api.MaxDay * minutes
		week  = 745649 * minutes // Monday, 4041-07-08
		month = 745642 * minutes // 4041-07-01
	)
	for _, c := range []struct{ t, kind, first, last int }{
		{0, 1, 0, 1439},
		{1, 1, 0, 1439},
		{1439, 1, 0, 1439},
		{1440, 1, 1440, 2879},
		{1441, 1, 1440, 2879},
		{end - 1, 1, end - 1440, end - 1},
		{end - 1440, 1, end - 1440, end - 1},
		{end - 1441, 1, end - 2880, end - 1441},
		{end, 1, end, most},
		{end + 1, 1, end, most},
		{most - 1, 1, end, most},
		{most, 1, end, most},
		{0, 2, 0, 2879},
		{1440, 2, 0, 2879},
		{2879, 2, 0, 2879},
		{2880, 2, 2880, 12959},
		{2881, 2, 2880, 12959},
		{12959, 2, 2880, 12959},
		{12960, 2, 12960, 23039},
		{week - 1, 2, week - 10080, week - 1},
		{week, 2, week, most},
		{end - 1, 2, week, most},
		{end, 2, week, most},
		{most, 2, week, most},
		{0, 3, 0, 31*1440 - 1},
		{31*1440 - 1, 3, 0, 31*1440 - 1},
		{31 * 1440, 3, 31 * 1440, 60*1440 - 1},
		{59 * 1440, 3, 31 * 1440, 60*1440 - 1},
		{60*1440 - 1, 3, 31 * 1440, 60*1440 - 1},
		{60 * 1440, 3, 60 * 1440, 91*1440 - 1},
		{365 * 1440, 3, 335 * 1440, 366*1440 - 1},
		{366 * 1440, 3, 366 * 1440, 397*1440 - 1},
		{424 * 1440, 3, 397 * 1440, 425*1440 - 1},
		{36583 * 1440, 3, 36556 * 1440, 36584*1440 - 1},
		{month - 1, 3, 745612 * 1440, month - 1},
		{month, 3, month, most},
		{end - 1, 3, month, most},
		{end, 3, month, most},
		{most, 3, month, most},
	} {
		if first, last, e := calendar.Period(c.t, c.kind); first != c.first || last != c.last || e != api.OK {
			t.Errorf("Period(%d, %d): %d, %d, %v, not %d, %d", c.t, c.kind, first, last, e, c.first, c.last)
		}
	}
}

// P6.4: the time comes before the kind.
func TestPeriodOfOthers(t *testing.T) {
	kinds := append(far(), -3, -2, -1, 0, 4, 5, 7, 1440)
	for _, kind := range kinds {
		for _, at := range []int{0, 1, 1500, api.MaxDay * minutes, most} {
			if first, last, e := calendar.Period(at, kind); first != 0 || last != 0 || e != api.ErrType {
				t.Errorf("Period(%d, %d): %d, %d, %v, not %v", at, kind, first, last, e, api.ErrType)
			}
		}
	}
	for _, at := range otherTimes() {
		for _, kind := range append(kinds, 1, 2, 3) {
			if first, last, e := calendar.Period(at, kind); first != 0 || last != 0 || e != api.ErrRange {
				t.Errorf("Period(%d, %d): %d, %d, %v, not %v", at, kind, first, last, e, api.ErrRange)
			}
		}
	}
}

// begins tells whether a period of a kind begins with a day.
func begins(day, kind int) bool {
	switch kind {
	case 1:
		return true
	case 2:
		return weekdayOf(day) == 0
	default:
		return civil(day).Day() == 1
	}
}

// P6.4: the periods of a kind follow one another from 0 to MaxTime, and all times of one of them have this one.
func TestPeriodsFollow(t *testing.T) {
	r := rand.New(rand.NewPCG(6, 4))
	for kind := 1; kind <= 3; kind++ {
		for first := 0; first <= most; {
			next := first/minutes + 1
			for !begins(next, kind) {
				next++
			}
			last := min(next*minutes-1, most)
			inside := []int{first, last, first + r.IntN(last-first+1)}
			for day := first / minutes; day < next && kind != 1; day++ {
				inside = append(inside, min(day*minutes+r.IntN(minutes), last))
			}
			for _, at := range inside {
				if a, b, e := calendar.Period(at, kind); a != first || b != last || e != api.OK {
					t.Fatalf("Period(%d, %d): %d, %d, %v, not %d, %d", at, kind, a, b, e, first, last)
				}
			}
			first = last + 1
		}
	}
}

// P6.5
func TestNext(t *testing.T) {
	const end = api.MaxDay * minutes // a Saturday
	for _, c := range []struct{ days, at, after, next int }{
		{1, 0, -1, 2880},
		{127, 0, -1, 0},
		{127, 0, 0, 1440},
		{127, 1439, -1, 1439},
		{127, 1439, 1438, 1439},
		{127, 1439, 1439, 2879},
		{127, 5, 4, 5},
		{127, 5, 5, 1445},
		{127, 5, 6, 1445},
		{32, 0, -1, 0},
		{32, 0, 0, 7 * 1440},
		{32, 1230, -1, 1230},
		{32, 1230, 1229, 1230},
		{32, 1230, 1230, 7*1440 + 1230},
		{64, 0, -1, 1440},
		{16, 0, -1, 6 * 1440},
		{16, 1439, 0, 7*1440 - 1},
		{1 + 4, 600, 2880, 2880 + 600},
		{1 + 4, 600, 2880 + 600, 2880 + 2880 + 600},
		{1 + 4, 600, 2880 + 2880 + 600, 9*1440 + 600},
		{127, 0, end - 1, end},
		{127, 63, end + 62, end + 63},
		{127, 64, end + 63, most},
		{127, 64, most - 1, most},
		{127, 64, end, most},
		{32, 64, -1 + end, most},
		{32, 64, end - 5*1440, most},
		{16, 1439, end - 2, end - 1},
		{64, 100, end - 7*1440, end - 6*1440 + 100},
	} {
		if next, e := calendar.Next(c.days, c.at, c.after); next != c.next || e != api.OK {
			t.Errorf("Next(%d, %d, %d): %d, %v, not %d", c.days, c.at, c.after, next, e, c.next)
		}
	}
}

// P6.5
func TestNextOfOthers(t *testing.T) {
	const end = api.MaxDay * minutes
	for _, c := range [][3]int{
		{0, 0, -1}, {128, 0, -1}, {129, 0, -1}, {255, 0, -1}, {256, 0, -1}, {-1, 0, -1}, {-128, 0, -1},
		{127, -1, -1}, {127, 1440, -1}, {127, 1441, -1}, {127, 2880, -1}, {127, -1440, 5000}, {1, 1440, -1},
		{127, 0, -2}, {127, 0, -1440}, {127, 0, -3}, {127, 1439, -2}, {127, 0, most + 1}, {127, 0, 2 * most},
		{127, 0, most}, {127, 1439, most}, {127, 64, most}, {127, 65, most}, {32, 64, most}, {64, 0, most},
		{127, 0, end}, {127, 63, end + 63}, {127, 65, end}, {127, 65, end - 1375}, {127, 1439, end - 1}, {127, 65, most - 1},
		{31 + 64, 0, end - 1}, {31 + 64, 64, end - 1}, {1, 0, end}, {16, 1439, end - 1}, {1, 0, 745649 * minutes}, {32, 65, end - 7*1440 + 65},
		{0, 1440, -2}, {math.MinInt, math.MinInt, math.MinInt}, {math.MaxInt, math.MaxInt, math.MaxInt},
	} {
		if next, e := calendar.Next(c[0], c[1], c[2]); next != 0 || e != api.ErrRange {
			t.Errorf("Next(%d, %d, %d): %d, %v, not %v", c[0], c[1], c[2], next, e, api.ErrRange)
		}
	}
	for _, n := range far() {
		for _, c := range [][3]int{{n, 0, -1}, {127, n, -1}, {127, 0, n}} {
			if c[1] >= 0 && c[1] < minutes && c[2] >= -1 && c[2] <= most && c[0] == 127 {
				continue
			}
			if next, e := calendar.Next(c[0], c[1], c[2]); next != 0 || e != api.ErrRange {
				t.Errorf("Next(%d, %d, %d): %d, %v, not %v", c[0], c[1], c[2], next, e, api.ErrRange)
			}
		}
	}
}

// firstAfter returns the first time after another one that is on one of the weekdays at this minute, by trying one time after the other, and whether there is one.
func firstAfter(days, at, after int) (int, bool) {
	for t := after + 1; t <= min(after+8*minutes, most); t++ {
		if t%minutes == at && days>>weekdayOf(t/minutes)&1 == 1 {
			return t, true
		}
	}
	return 0, false
}

// P6.5
func TestNextIsFirst(t *testing.T) {
	r := rand.New(rand.NewPCG(6, 5))
	afters := someTimes(2000)
	for i := range 300 {
		afters = append(afters, i*40-1, most-i*40)
	}
	for i, after := range afters {
		ats := []int{r.IntN(minutes), 0, 63, 64, 65, minutes - 1, max(after, 0) % minutes, (after + 1) % minutes}
		for j, days := range []int{1 + r.IntN(127), 1 << r.IntN(7), 127, 127 - 1<<r.IntN(7), 1 << (max(after, 0) / minutes % 7)} {
			at := ats[(i+j)%len(ats)]
			next, e := calendar.Next(days, at, after)
			exact, ok := firstAfter(days, at, after)
			if next != exact || ok != (e == api.OK) || !ok && e != api.ErrRange {
				t.Fatalf("Next(%d, %d, %d): %d, %v, not %d, %t", days, at, after, next, e, exact, ok)
			}
		}
	}
}

// P6.5: from -1 on, all times of a set of weekdays follow one another, and then there is none.
func TestNextGoesOn(t *testing.T) {
	for _, c := range [][2]int{{1, 0}, {2, 1230}, {4, 1439}, {8, 1}, {16, 719}, {32, 64}, {32, 65}, {64, 0}, {127, 0}, {127, 64}, {127, 65}, {1 + 8 + 32, 1230}, {96, 60}, {95, 63}} {
		days, at, after := c[0], c[1], -1
		for t0 := at; t0 <= most; t0 += minutes {
			if days>>weekdayOf(t0/minutes)&1 == 0 {
				continue
			}
			next, e := calendar.Next(days, at, after)
			if next != t0 || e != api.OK {
				t.Fatalf("Next(%d, %d, %d): %d, %v, not %d", days, at, after, next, e, t0)
			}
			after = next
		}
		if next, e := calendar.Next(days, at, after); next != 0 || e != api.ErrRange {
			t.Errorf("Next(%d, %d, %d): %d, %v, not %v", days, at, after, next, e, api.ErrRange)
		}
	}
}

// texts are times with their texts.
var texts = []struct {
	t    int
	text string
}{
	{0, "2000-01-01 00:00"},
	{1, "2000-01-01 00:01"},
	{9, "2000-01-01 00:09"},
	{10, "2000-01-01 00:10"},
	{59, "2000-01-01 00:59"},
	{60, "2000-01-01 01:00"},
	{599, "2000-01-01 09:59"},
	{600, "2000-01-01 10:00"},
	{1439, "2000-01-01 23:59"},
	{1440, "2000-01-02 00:00"},
	{1501, "2000-01-02 01:01"},
	{59 * 1440, "2000-02-29 00:00"},
	{60*1440 - 1, "2000-02-29 23:59"},
	{365*1440 + 1439, "2000-12-31 23:59"},
	{9820*1440 + 1230, "2026-11-20 20:30"},
	{36584*1440 + 754, "2100-03-01 12:34"},
	{146156*1440 + 1, "2400-02-29 00:01"},
	{api.MaxDay*1440 - 1, "4041-07-12 23:59"},
	{api.MaxDay * 1440, "4041-07-13 00:00"},
	{api.MaxDay*1440 + 1, "4041-07-13 00:01"},
	{most - 1, "4041-07-13 01:03"},
	{most, "4041-07-13 01:04"},
}

// P6.6
func TestFormat(t *testing.T) {
	for _, c := range texts {
		if text, e := calendar.Format(c.t); text != c.text || e != api.OK {
			t.Errorf("Format(%d): %q, %v, not %q", c.t, text, e, c.text)
		}
	}
	for _, other := range otherTimes() {
		if text, e := calendar.Format(other); text != "" || e != api.ErrRange {
			t.Errorf("Format(%d): %q, %v, not %v", other, text, e, api.ErrRange)
		}
	}
}

// P6.6
func TestParse(t *testing.T) {
	for _, c := range texts {
		if at, e := calendar.Parse(c.text); at != c.t || e != api.OK {
			t.Errorf("Parse(%q): %d, %v, not %d", c.text, at, e, c.t)
		}
	}
}

// P6.6
func TestParseOfNoTime(t *testing.T) {
	for _, s := range []string{
		"4041-07-13 01:05", "4041-07-13 01:59", "4041-07-13 02:00", "4041-07-13 23:59", "4041-07-14 00:00", "4041-08-01 00:00", "4042-01-01 00:00", "5000-01-01 00:00", "9999-12-31 23:59",
		"1999-12-31 23:59", "1999-12-31 00:00", "1970-01-01 00:00", "1000-01-01 00:00", "0400-02-29 12:00", "0001-01-01 00:00", "0000-01-01 00:00", "0000-00-00 00:00",
		"2001-02-29 00:00", "2100-02-29 00:00", "2200-02-29 00:00", "2300-02-29 00:00", "2000-02-30 00:00", "2004-02-31 00:00", "2000-04-31 00:00", "2000-06-31 00:00", "2000-09-31 00:00", "2000-11-31 00:00", "2000-01-32 00:00", "2000-12-32 00:00", "2000-12-99 00:00",
		"2000-00-01 00:00", "2000-13-01 00:00", "2000-99-01 00:00", "2000-01-00 00:00", "2000-03-00 00:00", "2000-00-00 00:00", "2000-13-32 24:60",
		"2000-01-01 24:00", "2000-01-01 25:00", "2000-01-01 99:00", "2000-01-01 00:60", "2000-01-01 00:61", "2000-01-01 00:99", "2000-01-01 23:60", "2000-01-01 24:60", "2000-01-01 24:59", "4041-07-12 24:00", "1999-12-31 24:00", "4041-07-13 00:60", "4041-07-13 00:64",
	} {
		if at, e := calendar.Parse(s); at != 0 || e != api.ErrRange {
			t.Errorf("Parse(%q): %d, %v, not %v", s, at, e, api.ErrRange)
		}
	}
}

// P6.6: a text without the form is ErrSyntax even if it is that of no time.
func TestParseOfOthers(t *testing.T) {
	for _, s := range []string{
		"", " ", "2", "0", "2000", "2000-01-01", "2000-01-01 ", "2000-01-01 0:00", "2000-01-01 00:0", "2000-01-01 00", "2000-01-01 00:", "000-01-01 00:00", "200-01-01 00:00", "2000-1-01 00:00", "2000-01-1 00:00",
		"2000-01-01 00:000", "2000-01-01 00:00 ", " 2000-01-01 00:00", "2000-01-01 00:00\n", "2000-01-01 00:00\x00", "02000-01-01 00:00", "2000-01-01  00:00", "2000-01-01 00:00:00", "2000-01-01T00:00Z", "10000-01-01 00:00", "-2000-01-01 00:00",
		"2000/01/01 00:00", "2000-01-01T00:00", "2000-01-01-00:00", "2000-01-01 00-00", "2000-01-01 00.00", "2000:01:01 00:00", "2000-01-01\t00:00", "2000-01-01\n00:00", "2000-01-01:00:00", "2000 01 01 00 00", "20000101000000000", "2000010100000000", "01-01-2000 00:00", "00:00 2000-01-01",
		"+200-01-01 00:00", "-200-01-01 00:00", " 200-01-01 00:00", "200 -01-01 00:00", "2000-+1-01 00:00", "2000--1-01 00:00", "2000- 1-01 00:00", "2000-1 -01 00:00", "2000-01--1 00:00", "2000-01- 1 00:00", "2000-01-01  0:00", "2000-01-01 -0:00", "2000-01-01 +0:00", "2000-01-01 00:-0", "2000-01-01 00: 0",
		"2O00-01-01 00:00", "200l-01-01 00:00", "0x10-01-01 00:00", "2_00-01-01 00:00", "2e03-01-01 00:00", "2000-Ja-01 00:00", "20٠0-01-01 0:00", "٢٠٠٠-01-01 00", "２000-01-01 0:", "2000‐01-01 00", "----------------", "                ", "aaaa-aa-aa aa:aa", "::::-::-:: :::::", "////-//-// //:://",
		"2001-02-29x00:00", "2001-02-29 24:6x", "9999-99-99 99:9", "9999-99-99 99:999", "9999-99-99_99:99", "1999-12-31 23:5a", "4041-07-13 01:0:", "x000-13-01 00:00", "2000-13-01 00/00",
		strings.Repeat("0", 16), strings.Repeat("2000-01-01 00:00", 2), strings.Repeat("2", api.MaxText),
	} {
		if at, e := calendar.Parse(s); at != 0 || e != api.ErrSyntax {
			t.Errorf("Parse(%q): %d, %v, not %v", s, at, e, api.ErrSyntax)
		}
	}
}

// digits are the places of the digits in a text of a time.
var digits = []int{0, 1, 2, 3, 5, 6, 8, 9, 11, 12, 14, 15}

// P6.6: any byte at any place.
func TestParseOfAnyByte(t *testing.T) {
	for _, text := range []string{"2000-01-01 00:00", "2024-02-29 23:59", "4041-07-13 01:04", "9999-99-99 99:99"} {
		for i := range len(text) {
			for b := range 256 {
				s := text[:i] + string([]byte{byte(b)}) + text[i+1:]
				syntax := b != int(text[i])
				if slices.Contains(digits, i) {
					syntax = b < '0' || b > '9'
				}
				if at, e := calendar.Parse(s); (e == api.ErrSyntax) != syntax || e != api.OK && at != 0 {
					t.Errorf("Parse(%q): %d, %v", s, at, e)
				}
			}
		}
	}
}

// P6.6: shorter and longer texts.
func TestParseOfAnyLength(t *testing.T) {
	const text = "2024-02-29 23:59"
	for i := range len(text) {
		for _, s := range []string{text[:i], text[i+1:], text[:i] + text[i+1:], text[:i] + text[i:i+1] + text[i:], text + text[:i+1]} {
			if at, e := calendar.Parse(s); at != 0 || e != api.ErrSyntax {
				t.Errorf("Parse(%q): %d, %v, not %v", s, at, e, api.ErrSyntax)
			}
		}
	}
}

// P6.6: Parse inverts Format.
func TestParseInverts(t *testing.T) {
	check := func(at int) {
		text, e := calendar.Format(at)
		if exact := textOf(at); text != exact || e != api.OK {
			t.Fatalf("Format(%d): %q, %v, not %q", at, text, e, exact)
		}
		if back, e := calendar.Parse(text); back != at || e != api.OK {
			t.Fatalf("Parse(%q): %d, %v, not %d", text, back, e, at)
		}
	}
	for at := range 3 * minutes {
		check(at)
		check(most - at)
	}
	for day := range api.MaxDay {
		check(day*minutes + day*7%minutes)
	}
	for _, at := range someTimes(1000) {
		check(at)
	}
}

// P6.6: Format inverts Parse; texts of the form are those of times, or ErrRange.
func TestFormatInverts(t *testing.T) {
	r := rand.New(rand.NewPCG(6, 6))
	for range 300000 {
		y, m, d, hour, minute := 1995+r.IntN(2060), r.IntN(15), r.IntN(34), r.IntN(27), r.IntN(66)
		s := fmt.Sprintf("%04d-%02d-%02d %02d:%02d", y, m, d, hour, minute)
		at, e := calendar.Parse(s)
		exact := dayOf(y, m, d)*minutes + hour*60 + minute
		if !exists(y, m, d) || hour > 23 || minute > 59 || y < 2000 || exact > most {
			if at != 0 || e != api.ErrRange {
				t.Fatalf("Parse(%q): %d, %v, not %v", s, at, e, api.ErrRange)
			}
			continue
		}
		if at != exact || e != api.OK {
			t.Fatalf("Parse(%q): %d, %v, not %d", s, at, e, exact)
		}
		if back, e := calendar.Format(at); back != s || e != api.OK {
			t.Fatalf("Format(%d): %q, %v, not %q", at, back, e, s)
		}
	}
}
