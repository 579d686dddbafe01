package angle_test

import (
	"math"
	"math/big"
	"math/rand"

	"carom/api"
)

// The functions of this file work the promised values out from the chapter's words by themselves, so that they share no error with package fixed. Only normalized angles reach the arithmetic on ints, which they cannot overflow.

// wantNormalize takes the remainder of numbers of any size, which cannot overflow either.
func wantNormalize(a int) int {
	shifted := big.NewInt(int64(a))
	shifted.Add(shifted, big.NewInt(api.Pi))
	shifted.Mod(shifted, big.NewInt(api.TwoPi))
	return int(shifted.Int64()) - api.Pi
}

func wantDiff(a, b int) int {
	return wantNormalize(wantNormalize(b) - wantNormalize(a))
}

func magnitude(x int) int {
	if x < 0 {
		return -x
	}
	return x
}

// round divides n by the positive d and rounds halves away from zero.
func round(n, d int) int {
	quotient := (2*magnitude(n) + d) / (2 * d)
	if n < 0 {
		return -quotient
	}
	return quotient
}

func wantSin(a int) int {
	w := wantNormalize(a)
	x := magnitude(w)
	if x > api.HalfPi {
		x = api.Pi - x
	}
	z := round(x*api.One, api.HalfPi)
	y := round(z*z, api.One)
	inner := 41906 - round(y*4569, api.One)
	outer := 102873 - round(y*inner, api.One)
	sine := round(z*outer, api.One)
	if w < 0 {
		return -sine
	}
	return sine
}

func wantCos(a int) int {
	return wantSin(api.HalfPi - magnitude(wantNormalize(a)))
}

func wantRot(a int) api.Rot {
	c, s := wantCos(a), wantSin(a)
	square := big.NewInt(int64(c*c + s*s))
	length := int(square.Sqrt(square).Int64())
	return api.Rot{Cos: round(c*api.One, length), Sin: round(s*api.One, length)}
}

// edges are the angles that the chapter names, their multiples near zero and near the ends of int, with both signs, and the numbers beside them.
func edges() []int {
	var numbers []int
	for quarter := range 21 {
		numbers = append(numbers, beside(quarter*api.HalfPi)...)
	}
	last := math.MaxInt / api.HalfPi
	for quarter := last - 8; quarter <= last; quarter++ {
		numbers = append(numbers, beside(quarter*api.HalfPi)...)
	}
	for _, turns := range []int{6, 1000, 1 << 20, 1 << 40} {
		numbers = append(numbers, beside(turns*api.TwoPi)...)
		numbers = append(numbers, beside(turns*api.TwoPi+api.Pi)...)
	}
	for _, limit := range []int{api.One, api.MaxValue, api.WorldLimit, 1 << 31, 1 << 32, 1 << 62} {
		numbers = append(numbers, beside(limit)...)
	}
	for step := range 4 {
		numbers = append(numbers, math.MaxInt-step, math.MinInt+step, math.MaxInt-step*api.Pi, math.MinInt+step*api.Pi)
	}
	return numbers
}

// beside returns middle and the numbers next to it, with both signs.
func beside(middle int) []int {
	var numbers []int
	for near := middle - 2; near <= middle+2; near++ {
		numbers = append(numbers, near, -near)
	}
	return numbers
}

// spread returns count numbers from the whole range of int, with magnitudes of every length; the same at each call.
func spread(seed int64, count int) []int {
	source := rand.New(rand.NewSource(seed))
	numbers := make([]int, count)
	for i := range numbers {
		numbers[i] = int(source.Uint64()) >> source.Intn(64)
	}
	return numbers
}

// samples are the edges and numbers from the whole range of int.
func samples() []int {
	return append(edges(), spread(1, 5000)...)
}

// circle returns every angle of two whole turns about zero.
func circle() []int {
	numbers := make([]int, 0, 2*api.TwoPi+1)
	for a := -api.TwoPi; a <= api.TwoPi; a++ {
		numbers = append(numbers, a)
	}
	return numbers
}
