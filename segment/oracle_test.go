package segment_test

import (
	"math"
	"math/big"
	"math/rand"

	"carom/api"
)

// The functions of this file work the promised values out by numbers of any size. Where segments meet is found by solving for the crossing of their lines, so that it shares neither orientations nor boxes with the package.

func bigInt(x int) *big.Int {
	return big.NewInt(int64(x))
}

func saturated(x int) int {
	return min(max(x, -api.MaxValue), api.MaxValue)
}

func saturatedVec(v api.Vec) api.Vec {
	return vec(saturated(v.X), saturated(v.Y))
}

// way leads from one saturated point to another. Its components are not saturated themselves.
type way struct{ x, y *big.Int }

func between(from, to api.Vec) way {
	from, to = saturatedVec(from), saturatedVec(to)
	return way{bigInt(to.X - from.X), bigInt(to.Y - from.Y)}
}

func dot(a, b way) *big.Int {
	sum := new(big.Int).Mul(a.x, b.x)
	return sum.Add(sum, new(big.Int).Mul(a.y, b.y))
}

func cross(a, b way) *big.Int {
	difference := new(big.Int).Mul(a.x, b.y)
	return difference.Sub(difference, new(big.Int).Mul(a.y, b.x))
}

func square(a, b api.Vec) *big.Int {
	ab := between(a, b)
	return dot(ab, ab)
}

// roundBig divides n by the positive d and rounds halves away from zero.
func roundBig(n, d *big.Int) *big.Int {
	quotient := new(big.Int).Lsh(new(big.Int).Abs(n), 1)
	quotient.Add(quotient, d)
	quotient.Div(quotient, new(big.Int).Lsh(d, 1))
	if n.Sign() < 0 {
		quotient.Neg(quotient)
	}
	return quotient
}

// wantRatio is fixed.Ratio for a d that is not negative.
func wantRatio(n, d *big.Int) int {
	if n.Sign() <= 0 || d.Sign() == 0 {
		return 0
	}
	if n.Cmp(d) >= 0 {
		return one
	}
	if d.BitLen() <= 46 {
		return int(roundBig(new(big.Int).Mul(n, bigInt(one)), d).Int64())
	}
	return min(one, int(roundBig(n, roundBig(d, bigInt(one))).Int64()))
}

func wantLerp(a, b api.Vec, t int) api.Vec {
	component := func(a, b int) int {
		part := roundBig(new(big.Int).Mul(bigInt(saturated(b-a)), bigInt(t)), bigInt(one))
		return saturated(a + int(part.Int64()))
	}
	a, b = saturatedVec(a), saturatedVec(b)
	return vec(component(a.X, b.X), component(a.Y, b.Y))
}

func wantClosestPoint(n near) found {
	ab := between(n.a, n.b)
	t := wantRatio(dot(between(n.a, n.p), ab), dot(ab, ab))
	if t == one {
		return found{saturatedVec(n.b), t}
	}
	return found{wantLerp(n.a, n.b, t), t}
}

// within tells whether n/d lies in [0, 1], for any d but 0.
func within(n, d *big.Int) bool {
	return n.Sign()*d.Sign() >= 0 && n.CmpAbs(d) <= 0
}

// wantOnSegment tells whether p lies on the segment ab.
func wantOnSegment(p, a, b api.Vec) bool {
	ab, ap := between(a, b), between(a, p)
	if length := dot(ab, ab); length.Sign() != 0 {
		return cross(ab, ap).Sign() == 0 && within(dot(ap, ab), length)
	}
	return saturatedVec(a) == saturatedVec(p)
}

func wantIntersects(q quad) bool {
	ab, cd, ac := between(q.a, q.b), between(q.c, q.d), between(q.a, q.c)
	if turn := cross(ab, cd); turn.Sign() != 0 {
		return within(cross(ac, cd), turn) && within(cross(ac, ab), turn)
	}
	// If parallel segments have a common point, an end point of one of them is one.
	return wantOnSegment(q.a, q.c, q.d) || wantOnSegment(q.b, q.c, q.d) || wantOnSegment(q.c, q.a, q.b) || wantOnSegment(q.d, q.a, q.b)
}

// wantCandidates are the four candidates in their order.
func wantCandidates(q quad) []couple {
	return []couple{
		{saturatedVec(q.a), wantClosestPoint(near{q.c, q.d, q.a}).point},
		{saturatedVec(q.b), wantClosestPoint(near{q.c, q.d, q.b}).point},
		{wantClosestPoint(near{q.a, q.b, q.c}).point, saturatedVec(q.c)},
		{wantClosestPoint(near{q.a, q.b, q.d}).point, saturatedVec(q.d)},
	}
}

func wantClosestPoints(q quad) couple {
	if wantIntersects(q) {
		cd := between(q.c, q.d)
		n, d := cross(between(q.a, q.c), cd), cross(between(q.a, q.b), cd)
		common := wantLerp(q.a, q.b, wantRatio(n.Abs(n), d.Abs(d)))
		return couple{common, common}
	}
	candidates := wantCandidates(q)
	best := 0
	for i, candidate := range candidates {
		if square(candidate.first, candidate.second).Cmp(square(candidates[best].first, candidates[best].second)) < 0 {
			best = i
		}
	}
	return candidates[best]
}

func wantDistance(q quad) int {
	if wantIntersects(q) {
		return 0
	}
	closest := wantClosestPoints(q)
	return saturated(int(new(big.Int).Sqrt(square(closest.first, closest.second)).Int64()))
}

// trueDistanceToPoint is the distance of p from the segment ab, without the rounding that the chapter prescribes. The products are exact for saturated points, so that a float loses next to nothing.
func trueDistanceToPoint(a, b, p api.Vec) float64 {
	ab, ap := vec(b.X-a.X, b.Y-a.Y), vec(p.X-a.X, p.Y-a.Y)
	along, length := ap.X*ab.X+ap.Y*ab.Y, ab.X*ab.X+ab.Y*ab.Y
	if along <= 0 {
		return math.Sqrt(float64(ap.X*ap.X + ap.Y*ap.Y))
	}
	if along >= length {
		bp := vec(p.X-b.X, p.Y-b.Y)
		return math.Sqrt(float64(bp.X*bp.X + bp.Y*bp.Y))
	}
	return math.Abs(float64(ab.X*ap.Y-ab.Y*ap.X)) / math.Sqrt(float64(length))
}

// trueDistance is the distance of the segments between saturated points, without the rounding that the chapter prescribes.
func trueDistance(q quad) float64 {
	if wantIntersects(q) {
		return 0
	}
	return min(
		trueDistanceToPoint(q.c, q.d, q.a), trueDistanceToPoint(q.c, q.d, q.b),
		trueDistanceToPoint(q.a, q.b, q.c), trueDistanceToPoint(q.a, q.b, q.d))
}

// exchanged returns q with the two segments exchanged.
func exchanged(q quad) quad {
	return quad{q.c, q.d, q.a, q.b}
}

// turned returns q and the three ways to exchange end points in it.
func turned(q quad) []quad {
	return []quad{q, {q.b, q.a, q.c, q.d}, {q.a, q.b, q.d, q.c}, {q.b, q.a, q.d, q.c}}
}

// dice draws numbers, the same ones for each seed.
type dice struct{ source *rand.Rand }

func newDice(seed int64) dice {
	return dice{rand.New(rand.NewSource(seed))}
}

// scale draws the size of the numbers of one sample: they must be alike for segments to meet, and reach beyond the saturated range as well.
func (d dice) scale() int {
	sizes := []int{3, 8, 100, one / 4, 4 * one, 16 * one, 1 << 23, limit + 1, most + 2, 4 * most, high}
	return sizes[d.source.Intn(len(sizes))]
}

// number draws a number below scale in magnitude.
func (d dice) number(scale int) int {
	return int(d.source.Uint64()) % scale
}

func (d dice) point(scale int) api.Vec {
	return vec(d.number(scale), d.number(scale))
}

// at returns the point at the fraction n/d of the way from a to b, rounded.
func at(a, b api.Vec, n, d int) api.Vec {
	a, b = saturatedVec(a), saturatedVec(b)
	return vec(a.X+(b.X-a.X)*n/d, a.Y+(b.Y-a.Y)*n/d)
}

// plus returns v moved by shift.
func plus(v, shift api.Vec) api.Vec {
	return vec(v.X+shift.X, v.Y+shift.Y)
}

// grid returns all points with coordinates from numbers.
func grid(numbers ...int) []api.Vec {
	var list []api.Vec
	for _, x := range numbers {
		for _, y := range numbers {
			list = append(list, vec(x, y))
		}
	}
	return list
}

// all returns every choice of four points.
func all(points []api.Vec) []quad {
	var list []quad
	for _, a := range points {
		for _, b := range points {
			for _, c := range points {
				for _, d := range points {
					list = append(list, quad{a, b, c, d})
				}
			}
		}
	}
	return list
}

// related are segments that meet or nearly meet ab in every way, for points of one size.
func (d dice) related(scale int) []quad {
	a, b, c := d.point(scale), d.point(scale), d.point(scale)
	parts := 1 + d.source.Intn(9)
	on, beyond := at(a, b, d.source.Intn(parts+1), parts), at(a, b, -d.source.Intn(3), 1)
	shift, step := saturatedVec(d.point(scale)), d.point(2)
	a, b = saturatedVec(a), saturatedVec(b)
	return []quad{
		{a, b, c, d.point(scale)},
		// Through a point of ab, from it, and beside it.
		{a, b, c, at(c, on, 2, 1)}, {a, b, c, on}, {a, b, plus(on, step), c}, {a, b, a, c}, {a, b, c, b},
		// On the line through ab.
		{a, b, on, beyond}, {a, b, beyond, at(a, b, 2, 1)}, {a, b, beyond, at(a, b, -3, 1)}, {a, b, b, a},
		// Parallel to ab, at any distance and close by.
		{a, b, plus(a, shift), plus(b, shift)}, {a, b, plus(on, step), plus(beyond, step)}, {a, b, plus(b, shift), plus(at(a, b, 2, 1), shift)},
		// Single points.
		{a, b, on, on}, {a, b, c, c}, {a, b, plus(on, step), plus(on, step)}, {a, a, c, c}, {a, a, a, a}, {a, a, a, c},
	}
}

func quads() []quad {
	list := all(grid(0, 1, 2, 3))
	list = append(list, all(grid(-one, 0, one/3, 2*one))...)
	list = append(list, all(grid(-limit, 0, limit))...)
	list = append(list, all(grid(-most-1, 0, most))...)
	dice := newDice(1)
	for range 4000 {
		for _, q := range dice.related(dice.scale()) {
			list = append(list, q, exchanged(q))
		}
	}
	for range 2000 {
		list = append(list, quad{dice.point(dice.scale()), dice.point(dice.scale()), dice.point(dice.scale()), dice.point(dice.scale())})
	}
	return list
}

// points are segments with points anywhere and on, before, beside and behind them.
func points() []near {
	var list []near
	for _, corners := range [][]api.Vec{grid(0, 1, 2, 3), grid(-one, 0, one/3, 2*one), grid(-limit, 0, limit), grid(low, -most-1, -most, -1, 0, most, high)} {
		for _, a := range corners {
			for _, b := range corners {
				for _, p := range corners {
					list = append(list, near{a, b, p})
				}
			}
		}
	}
	dice := newDice(2)
	for range 20000 {
		scale := dice.scale()
		a, b := dice.point(scale), dice.point(scale)
		parts, step := 1+dice.source.Intn(70000), dice.point(3)
		on := at(a, b, dice.source.Intn(parts+1), parts)
		list = append(list, near{a, b, dice.point(scale)}, near{a, b, on}, near{a, b, plus(on, step)}, near{a, b, at(a, b, -1, parts)}, near{a, b, at(a, b, parts+1, parts)}, near{a, b, plus(saturatedVec(a), step)}, near{a, b, plus(saturatedVec(b), step)}, near{a, a, b})
	}
	return list
}

// inWorld tells whether all points have coordinates up to WorldLimit.
func inWorld(q quad) bool {
	for _, v := range []api.Vec{q.a, q.b, q.c, q.d} {
		if max(v.X, v.Y) > limit || min(v.X, v.Y) < -limit {
			return false
		}
	}
	return true
}

// worldQuads are segments with coordinates up to WorldLimit: besides the samples those with points near its corners, where rounding weighs most.
func worldQuads() []quad {
	var list []quad
	for _, q := range quads() {
		if inWorld(q) {
			list = append(list, q)
		}
	}
	dice := newDice(3)
	corner := func() api.Vec {
		v := vec(limit-dice.source.Intn(20000), limit-dice.source.Intn(20000))
		return vec(v.X*(1-2*dice.source.Intn(2)), v.Y*(1-2*dice.source.Intn(2)))
	}
	for range 50000 {
		a, b := corner(), corner()
		// The end point c lies close to a, about where the parameter leaves 0.
		c := plus(a, vec(dice.number(20000), dice.number(20000)))
		for _, q := range []quad{{a, b, corner(), corner()}, {a, b, c, c}, {a, b, c, corner()}} {
			if inWorld(q) {
				list = append(list, q)
			}
		}
	}
	return list
}
