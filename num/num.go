// Package num is layer 1: checked integer arithmetic and decimal numbers (see shared/doc/01-num.md).
package num

import (
	"math"
	"math/bits"
	"strconv"

	"lottery/api"
)

const maxPower = 62

// Add returns a + b. Like Sub, it compares before it computes, so that nothing wraps around (rule R8).
func Add(a, b int) (int, api.Errno) {
	if b > 0 && a > math.MaxInt-b || b < 0 && a < math.MinInt-b {
		return 0, api.ErrOverflow
	}
	return a + b, api.OK
}

// Sub returns a - b.
func Sub(a, b int) (int, api.Errno) {
	if b < 0 && a > math.MaxInt+b || b > 0 && a < math.MinInt+b {
		return 0, api.ErrOverflow
	}
	return a - b, api.OK
}

// Mul returns a * b.
func Mul(a, b int) (int, api.Errno) {
	high, low := bits.Mul64(magnitude(a), magnitude(b))
	if high != 0 {
		return 0, api.ErrOverflow
	}
	return signed((a < 0) != (b < 0), low)
}

// MulDiv returns the quotient and the remainder of a * b by c; the product has two words, so that it is exact.
func MulDiv(a, b, c int) (int, int, api.Errno) {
	if c == 0 {
		return 0, 0, api.ErrDivide
	}
	if a < 0 || b < 0 || c < 0 {
		return 0, 0, api.ErrRange
	}
	high, low := bits.Mul64(uint64(a), uint64(b))
	// Div64 panics if its quotient has more than one word, which is so exactly if high is not below c.
	if high >= uint64(c) {
		return 0, 0, api.ErrOverflow
	}
	quotient, remainder := bits.Div64(high, low, uint64(c))
	if quotient > math.MaxInt {
		return 0, 0, api.ErrOverflow
	}
	return int(quotient), int(remainder), api.OK
}

// Power returns a to the power of n. An overflow on the way is one of the result: if any power overflows, each further one has at least twice the magnitude of the one before.
func Power(a, n int) (int, api.Errno) {
	if n < 0 || n > maxPower {
		return 0, api.ErrRange
	}
	power := 1
	for range n {
		next, e := Mul(power, a)
		if e != api.OK {
			return 0, e
		}
		power = next
	}
	return power, api.OK
}

// GCD returns the greatest common divisor of the absolute values of a and b, or 0 for the divisor 2^63, which is not an int.
func GCD(a, b int) int {
	x, y := magnitude(a), magnitude(b)
	for y != 0 {
		x, y = y, x%y
	}
	if x > math.MaxInt {
		return 0
	}
	return int(x)
}

// Parse returns the number of which s is the decimal form.
func Parse(s string) (int, api.Errno) {
	if !isDecimal(s) {
		return 0, api.ErrSyntax
	}
	n, err := strconv.Atoi(s)
	if err != nil {
		return 0, api.ErrOverflow
	}
	return n, api.OK
}

// Format returns the decimal form of n.
func Format(n int) string {
	return strconv.Itoa(n)
}

// isDecimal tells whether s is the one form in which a number is written; Atoi alone would also accept +1, 007 and -0.
func isDecimal(s string) bool {
	if s == "0" {
		return true
	}
	if len(s) > 0 && s[0] == '-' {
		s = s[1:]
	}
	if len(s) == 0 || s[0] == '0' {
		return false
	}
	for i := range len(s) {
		if s[i] < '0' || s[i] > '9' {
			return false
		}
	}
	return true
}

// magnitude returns the absolute value of n; MinInt is the one int whose negative is not an int.
func magnitude(n int) uint64 {
	if n == math.MinInt {
		return 1 << 63
	}
	if n < 0 {
		return uint64(-n)
	}
	return uint64(n)
}

// signed returns the int with the magnitude m and a sign.
func signed(negative bool, m uint64) (int, api.Errno) {
	if negative && m == 1<<63 {
		return math.MinInt, api.OK
	}
	if m > math.MaxInt {
		return 0, api.ErrOverflow
	}
	if negative {
		return -int(m), api.OK
	}
	return int(m), api.OK
}
