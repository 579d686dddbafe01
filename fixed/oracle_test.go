package fixed_test

import (
	"math"
	"math/big"
	"math/rand"

	"carom/api"
)

// The functions of this file work the promised values out by numbers of any size, so that they share neither overflow nor rounding tricks with the package.

func bigInt(x int) *big.Int {
	return big.NewInt(int64(x))
}

// inOperandRange tells whether x lies in [low, 2^62].
func inOperandRange(x, low int) bool {
	return x >= low && x <= 1<<62
}

func saturateBig(x *big.Int) int {
	limit := bigInt(api.MaxValue)
	if x.CmpAbs(limit) <= 0 {
		return int(x.Int64())
	}
	if x.Sign() < 0 {
		return -api.MaxValue
	}
	return api.MaxValue
}

func saturated(x int) int {
	return saturateBig(bigInt(x))
}

// roundBig divides n by the positive d and rounds halves away from zero.
func roundBig(n, d *big.Int) *big.Int {
	twice := new(big.Int).Lsh(new(big.Int).Abs(n), 1)
	quotient := twice.Add(twice, d)
	quotient.Div(quotient, new(big.Int).Lsh(d, 1))
	if n.Sign() < 0 {
		quotient.Neg(quotient)
	}
	return quotient
}

func wantAdd(a, b int) int {
	return saturateBig(new(big.Int).Add(bigInt(saturated(a)), bigInt(saturated(b))))
}

func wantSub(a, b int) int {
	return saturateBig(new(big.Int).Sub(bigInt(saturated(a)), bigInt(saturated(b))))
}

func wantRoundDiv(n, d int) int {
	if !inOperandRange(d, 1) || !inOperandRange(n, -1<<62) {
		return 0
	}
	return int(roundBig(bigInt(n), bigInt(d)).Int64())
}

func wantMul(a, b int) int {
	product := new(big.Int).Mul(bigInt(saturated(a)), bigInt(saturated(b)))
	return saturateBig(roundBig(product, bigInt(api.One)))
}

func wantDiv(a, b int) int {
	if b == 0 {
		return bigInt(a).Sign() * api.MaxValue
	}
	n := new(big.Int).Mul(bigInt(saturated(a)), bigInt(api.One))
	d := bigInt(saturated(b))
	if d.Sign() < 0 {
		n.Neg(n)
		d.Neg(d)
	}
	return saturateBig(roundBig(n, d))
}

func wantRatio(n, d int) int {
	if !inOperandRange(d, 1) || n < 1 {
		return 0
	}
	if n >= d {
		return api.One
	}
	if d < 1<<46 {
		return int(roundBig(new(big.Int).Mul(bigInt(n), bigInt(api.One)), bigInt(d)).Int64())
	}
	quotient := roundBig(bigInt(n), roundBig(bigInt(d), bigInt(api.One)))
	if quotient.Cmp(bigInt(api.One)) > 0 {
		return api.One
	}
	return int(quotient.Int64())
}

func wantIsqrt(n int) int {
	if !inOperandRange(n, 0) {
		return 0
	}
	return int(new(big.Int).Sqrt(bigInt(n)).Int64())
}

func wantSqrt(x int) int {
	if x < 0 {
		return 0
	}
	return int(new(big.Int).Sqrt(new(big.Int).Mul(bigInt(saturated(x)), bigInt(api.One))).Int64())
}

func wantClamp(x, low, high int) int {
	if low > high {
		return low
	}
	return max(low, min(x, high))
}

func wantLerp(a, b, t int) int {
	return wantAdd(a, wantMul(wantSub(b, a), t))
}

// edges are the numbers at and beside each limit that the chapter names, with both signs.
func edges() []int {
	middles := []int{
		0, 2, 5, api.One / 2, api.One, 3 * api.One / 2, 2 * api.One,
		api.MaxValue / 2, api.MaxValue, 2 * api.MaxValue,
		1 << 30, 1<<31 - 1, 1 << 32, 1<<46 - 1<<15, 1 << 46, 1<<46 + 1<<15, 1 << 47, 1 << 61, 1 << 62,
	}
	numbers := []int{math.MaxInt - 1, math.MaxInt, math.MinInt, math.MinInt + 1}
	for _, middle := range middles {
		for near := middle - 1; near <= middle+1; near++ {
			numbers = append(numbers, near, -near)
		}
	}
	return numbers
}

// spread returns count numbers from the whole range of int, with magnitudes of every length; the same at each call.
func spread(seed int64, count int) []int {
	source := rand.New(rand.NewSource(seed))
	numbers := make([]int, count)
	for i := range numbers {
		numbers[i] = int(source.Uint64()) >> source.Intn(64)
	}
	return numbers
}

// samples are the edges and numbers from the whole range of int.
func samples() []int {
	return append(edges(), spread(1, 300)...)
}
