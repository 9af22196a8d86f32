// Package tick is layer 1: arithmetic on ticks that tells when a result doesn't fit. See shared/doc/01-tick.md.
package tick

import (
	"math"
	"math/bits"
)

// Add is the exact sum, and whether it fits.
func Add(a, b int) (int, bool) {
	s := a + b
	// A sum that wrapped round has another sign than both of its parts.
	if (a^s)&(b^s) < 0 {
		return 0, false
	}
	return s, true
}

// Sub is the exact difference, and whether it fits.
func Sub(a, b int) (int, bool) {
	d := a - b
	// Only parts of different signs can wrap round, and then the sign isn't a's.
	if (a^b)&(a^d) < 0 {
		return 0, false
	}
	return d, true
}

// Mul is the exact product, and whether it fits.
func Mul(a, b int) (int, bool) {
	hi, lo := bits.Mul64(amount(a), amount(b))
	if hi != 0 {
		return 0, false
	}
	return signed(lo, a^b < 0)
}

// Sum is the exact sum of all, and whether it fits; 0 of none.
func Sum(list ...int) (int, bool) {
	// 128 bits in two's complement: sums on the way may be beyond 64 bits and come back.
	hi, lo := 0, uint64(0)
	for _, n := range list {
		s, carry := bits.Add64(lo, uint64(n), 0)
		hi, lo = hi+(n>>63)+int(carry), s
	}
	if hi != int(lo)>>63 {
		return 0, false
	}
	return int(lo), true
}

// Floor is a / b, rounded down; false if b is below 1.
func Floor(a, b int) (int, bool) {
	if b < 1 {
		return 0, false
	}
	q := a / b
	if a%b < 0 {
		q--
	}
	return q, true
}

// Ceil is a / b, rounded up; false if b is below 1.
func Ceil(a, b int) (int, bool) {
	if b < 1 {
		return 0, false
	}
	q := a / b
	if a%b > 0 {
		q++
	}
	return q, true
}

// Mod is a less b times Floor; false if b is below 1.
func Mod(a, b int) (int, bool) {
	if b < 1 {
		return 0, false
	}
	m := a % b
	if m < 0 {
		m += b
	}
	return m, true
}

// Gcd is the greatest common divisor of the amounts, 0 if both are 0. It is unsigned, for the amount of -2^63 is no int.
func Gcd(a, b int) uint64 {
	x, y := amount(a), amount(b)
	for y != 0 {
		x, y = y, x%y
	}
	return x
}

// Lcm is the least common multiple of the amounts, 0 if one is 0, and whether it fits.
func Lcm(a, b int) (int, bool) {
	if a == 0 || b == 0 {
		return 0, true
	}
	hi, lo := bits.Mul64(amount(a)/Gcd(a, b), amount(b))
	if hi != 0 {
		return 0, false
	}
	return signed(lo, false)
}

// Shift is a times 2^n, rounded down where n is below 0, and whether it fits.
func Shift(a int, n int) (int, bool) {
	// The count is taken as an amount: -n would stay below 0 at n = -2^63.
	by := amount(n)
	if n < 0 {
		return a >> by, true
	}
	r := a << by
	// What doesn't come back has lost bits, or its sign.
	if r>>by != a {
		return 0, false
	}
	return r, true
}

// amount is n without its sign, exact at -2^63 too.
func amount(n int) uint64 {
	sign := uint64(n >> 63)
	return (uint64(n) ^ sign) - sign
}

// signed is the number of that size and sign, and whether it fits.
func signed(size uint64, negative bool) (int, bool) {
	if negative && size <= 1<<63 {
		return int(-size), true
	}
	if !negative && size <= math.MaxInt {
		return int(size), true
	}
	return 0, false
}
