// Package fixed implements chapter 1, fixed-point arithmetic; see shared/doc/01-fixed.md.
//
// A fixed-point number is an int that counts units of 1/65536 (api.One). It is saturated if it lies in [-api.MaxValue, api.MaxValue].
package fixed

import (
	"math/bits"

	"carom/api"
)

const (
	// maxOperand bounds the operands of RoundDiv: twice a remainder of a divisor up to it still fits into an int.
	maxOperand = 1 << 62

	// scaledDivisor is the divisor from which on Ratio scales the divisor down: n*One fits into an int for each n below it.
	scaledDivisor = 1 << 46
)

// Saturate returns the saturated number that is closest to x.
func Saturate(x int) int {
	if x > api.MaxValue {
		return api.MaxValue
	}
	if x < -api.MaxValue {
		return -api.MaxValue
	}
	return x
}

// Add returns the saturated sum of the saturated arguments.
func Add(a, b int) int {
	return Saturate(Saturate(a) + Saturate(b))
}

// Sub returns the saturated difference of the saturated arguments.
func Sub(a, b int) int {
	return Saturate(Saturate(a) - Saturate(b))
}

// Mul returns the saturated product of the saturated arguments, rounded like RoundDiv.
func Mul(a, b int) int {
	return Saturate(RoundDiv(Saturate(a)*Saturate(b), api.One))
}

// Div returns the saturated quotient of the saturated arguments, rounded like RoundDiv. A division by 0 returns the largest number with the sign of a, or 0 if a is 0.
func Div(a, b int) int {
	if b == 0 {
		return divByZero(a)
	}
	n, d := Saturate(a)*api.One, Saturate(b)
	if d < 0 {
		n, d = -n, -d
	}
	return Saturate(RoundDiv(n, d))
}

func divByZero(a int) int {
	if a > 0 {
		return api.MaxValue
	}
	if a < 0 {
		return -api.MaxValue
	}
	return 0
}

// RoundDiv returns n divided by d, rounded to the nearest integer, with halves rounded away from zero. It returns 0 unless 1 <= d <= 2^62 and -2^62 <= n <= 2^62.
func RoundDiv(n, d int) int {
	if d < 1 || d > maxOperand || n < -maxOperand || n > maxOperand {
		return 0
	}
	quotient, remainder := n/d, n%d
	// Doubling the remainder is safe where adding d/2 to n would overflow.
	if 2*remainder >= d {
		return quotient + 1
	}
	if 2*remainder <= -d {
		return quotient - 1
	}
	return quotient
}

// Ratio returns n/d as a fixed-point number in [0, One]. It returns 0 if d is not in [1, 2^62] or n < 1, and One if n >= d.
func Ratio(n, d int) int {
	if d < 1 || d > maxOperand || n < 1 {
		return 0
	}
	if n >= d {
		return api.One
	}
	if d < scaledDivisor {
		return RoundDiv(n*api.One, d)
	}
	// Here n*One could overflow, so the divisor is scaled down instead.
	return min(api.One, RoundDiv(n, RoundDiv(d, api.One)))
}

// Isqrt returns the largest integer whose square is at most n, for n in [0, 2^62], and 0 for other n.
func Isqrt(n int) int {
	if n < 1 || n > maxOperand {
		return 0
	}
	// Newton's iteration falls strictly until it reaches the result if it starts above it: the square of this power of two is greater than n.
	root := 1 << ((bits.Len64(uint64(n)) + 1) / 2)
	for {
		next := (root + n/root) / 2
		if next >= root {
			return root
		}
		root = next
	}
}

// Sqrt returns the square root of the saturated x, rounded down, or 0 for negative x.
func Sqrt(x int) int {
	return Isqrt(Saturate(x) * api.One)
}

// Clamp returns low if low > high or x < low, high if x > high, and x otherwise. It does not saturate.
func Clamp(x, low, high int) int {
	if low > high || x < low {
		return low
	}
	if x > high {
		return high
	}
	return x
}

// Lerp returns the number at the fraction t of the way from a to b.
func Lerp(a, b, t int) int {
	return Add(a, Mul(Sub(b, a), t))
}
