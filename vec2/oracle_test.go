package vec2_test

import (
	"math"
	"math/big"
	"math/rand"

	"carom/api"
)

// The functions of this file work the promised values out by numbers of any size, so that they share neither overflow nor rounding tricks with the package.

func bigInt(x int) *big.Int {
	return big.NewInt(int64(x))
}

func saturateBig(x *big.Int) int {
	if x.CmpAbs(bigInt(api.MaxValue)) <= 0 {
		return int(x.Int64())
	}
	return x.Sign() * api.MaxValue
}

func saturated(x int) int {
	return saturateBig(bigInt(x))
}

// roundBig divides n by the positive d and rounds halves away from zero.
func roundBig(n, d *big.Int) *big.Int {
	twice := new(big.Int).Lsh(new(big.Int).Abs(n), 1)
	quotient := twice.Add(twice, d)
	quotient.Div(quotient, new(big.Int).Lsh(d, 1))
	if n.Sign() < 0 {
		quotient.Neg(quotient)
	}
	return quotient
}

// products returns a*b + c*d for the saturated numbers.
func products(a, b, c, d int) *big.Int {
	sum := new(big.Int).Mul(bigInt(saturated(a)), bigInt(saturated(b)))
	return sum.Add(sum, new(big.Int).Mul(bigInt(saturated(c)), bigInt(saturated(d))))
}

// negated returns the negative of the saturated x, which exists for every int.
func negated(x int) int {
	return -saturated(x)
}

func rounded(sum *big.Int) int {
	return saturateBig(roundBig(sum, bigInt(api.One)))
}

func wantAddNumber(a, b int) int {
	return saturateBig(new(big.Int).Add(bigInt(saturated(a)), bigInt(saturated(b))))
}

func wantMulNumber(a, b int) int {
	return rounded(products(a, b, 0, 0))
}

func wantDivNumber(a, b int) int {
	n := new(big.Int).Mul(bigInt(saturated(a)), bigInt(api.One))
	return saturateBig(roundBig(n, bigInt(saturated(b))))
}

func wantLerpNumber(a, b, t int) int {
	return wantAddNumber(a, wantMulNumber(wantAddNumber(b, negated(a)), t))
}

func wantAdd(p pair) api.Vec {
	return vec(wantAddNumber(p.a.X, p.b.X), wantAddNumber(p.a.Y, p.b.Y))
}

func wantSub(p pair) api.Vec {
	return vec(wantAddNumber(p.a.X, negated(p.b.X)), wantAddNumber(p.a.Y, negated(p.b.Y)))
}

func wantScale(s scaled) api.Vec {
	return vec(wantMulNumber(s.v.X, s.k), wantMulNumber(s.v.Y, s.k))
}

func wantLerp(m mixed) api.Vec {
	return vec(wantLerpNumber(m.a.X, m.b.X, m.t), wantLerpNumber(m.a.Y, m.b.Y, m.t))
}

func wantPerp(v api.Vec) api.Vec {
	return vec(negated(v.Y), saturated(v.X))
}

func wantCrossScalar(s scaled) api.Vec {
	return vec(-wantMulNumber(s.k, s.v.Y), wantMulNumber(s.k, s.v.X))
}

func wantDot(p pair) int {
	return rounded(products(p.a.X, p.b.X, p.a.Y, p.b.Y))
}

func wantCross(p pair) int {
	return rounded(products(p.a.X, p.b.Y, negated(p.a.Y), p.b.X))
}

func wantLength(v api.Vec) int {
	return int(new(big.Int).Sqrt(products(v.X, v.X, v.Y, v.Y)).Int64())
}

func wantNormalize(v api.Vec) api.Vec {
	length := wantLength(v)
	if length == 0 {
		return api.Vec{}
	}
	return vec(wantDivNumber(v.X, length), wantDivNumber(v.Y, length))
}

func wantRotate(m turned) api.Vec {
	x := products(m.r.Cos, m.v.X, negated(m.r.Sin), m.v.Y)
	y := products(m.r.Sin, m.v.X, m.r.Cos, m.v.Y)
	return vec(rounded(x), rounded(y))
}

func wantInverseRotate(m turned) api.Vec {
	x := products(m.r.Cos, m.v.X, m.r.Sin, m.v.Y)
	y := products(m.r.Cos, m.v.Y, negated(m.r.Sin), m.v.X)
	return vec(rounded(x), rounded(y))
}

// gap returns b-a for the saturated numbers, which is not saturated itself.
func gap(a, b int) *big.Int {
	return new(big.Int).Sub(bigInt(saturated(b)), bigInt(saturated(a)))
}

func wantOrientation(p triple) int {
	left := new(big.Int).Mul(gap(p.a.X, p.b.X), gap(p.a.Y, p.c.Y))
	right := new(big.Int).Mul(gap(p.a.Y, p.b.Y), gap(p.a.X, p.c.X))
	return left.Sub(left, right).Sign()
}

func wantDistanceSquared(p pair) int {
	x, y := gap(p.a.X, p.b.X), gap(p.a.Y, p.b.Y)
	sum := x.Mul(x, x)
	return int(sum.Add(sum, y.Mul(y, y)).Int64())
}

// edges are the numbers at and beside each limit that the chapter names, with both signs.
func edges() []int {
	middles := []int{0, api.One / 4, api.One / 2, api.One, 3 * api.One, api.MaxValue / 2, api.MaxValue, 2 * api.MaxValue, 1 << 32, 1 << 62}
	numbers := []int{math.MaxInt - 1, math.MaxInt, math.MinInt, math.MinInt + 1}
	for _, middle := range middles {
		for near := middle - 1; near <= middle+1; near++ {
			numbers = append(numbers, near, -near)
		}
	}
	return numbers
}

// ends are the few numbers whose every combination is tried.
func ends() []int {
	return []int{0, 1, -3, api.One / 2, -api.One, api.MaxValue, -api.MaxValue - 1, math.MaxInt, math.MinInt}
}

// grid returns every vector with components from numbers.
func grid(numbers []int) []api.Vec {
	var vectors []api.Vec
	for _, x := range numbers {
		for _, y := range numbers {
			vectors = append(vectors, vec(x, y))
		}
	}
	return vectors
}

// spread returns count vectors with components from the whole range of int, with magnitudes of every length; the same at each call.
func spread(seed int64, count int) []api.Vec {
	source := rand.New(rand.NewSource(seed))
	component := func() int {
		return int(source.Uint64()) >> source.Intn(64)
	}
	vectors := make([]api.Vec, count)
	for i := range vectors {
		vectors[i] = vec(component(), component())
	}
	return vectors
}

func vectors() []api.Vec {
	return append(grid(edges()), spread(1, 10000)...)
}

func pairs() []pair {
	var list []pair
	corners := grid(ends())
	for _, a := range corners {
		for _, b := range corners {
			list = append(list, pair{a, b})
		}
	}
	as, bs := vectors(), spread(2, 10000)
	for i, a := range as {
		list = append(list, pair{a, bs[i%len(bs)]}, pair{a, as[(7*i+3)%len(as)]})
	}
	return list
}

// scaledVectors pairs vectors with numbers.
func scaledVectors() []scaled {
	var list []scaled
	for _, p := range pairs() {
		list = append(list, scaled{p.a, p.b.X})
	}
	return list
}

// turnedVectors pairs rotations, most of which are not of unit length, with vectors.
func turnedVectors() []turned {
	var list []turned
	for _, p := range pairs() {
		list = append(list, turned{api.Rot{Cos: p.a.X, Sin: p.a.Y}, p.b})
	}
	return list
}

func mixedVectors() []mixed {
	numbers := edges()
	var list []mixed
	for i, p := range pairs() {
		list = append(list, mixed{p.a, p.b, numbers[i%len(numbers)]}, mixed{p.a, p.b, p.a.X ^ p.b.Y})
	}
	return list
}

// triples are points anywhere, and points on or beside one line.
func triples() []triple {
	var list []triple
	corners := grid([]int{0, 1, -api.MaxValue, api.MaxValue - 1, math.MaxInt})
	for _, a := range corners {
		for _, b := range corners {
			for _, c := range corners {
				list = append(list, triple{a, b, c})
			}
		}
	}
	for i, p := range pairs() {
		a, b := vec(saturated(p.a.X), saturated(p.a.Y)), vec(saturated(p.b.X), saturated(p.b.Y))
		beyond := vec(2*b.X-a.X, 2*b.Y-a.Y)
		list = append(list, triple{a, b, vec((a.X+b.X)/2, (a.Y+b.Y)/2)}, triple{a, b, beyond}, triple{p.a, p.b, vec(i, -i)})
	}
	return list
}
