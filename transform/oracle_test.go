package transform_test

import (
	"math"
	"math/rand"

	"carom/angle"
	"carom/api"
)

// The functions of this file work the promised values out component by component, so that they share no vector arithmetic with the package. Rotations and normalized angles come from package angle, which has tests of its own. A product of saturated numbers is below 2^58, so that sums of two fit into an int.

func saturated(x int) int {
	return min(max(x, -api.MaxValue), api.MaxValue)
}

// rounded turns a sum of products into a saturated number, halves away from zero.
func rounded(sum int) int {
	if sum < 0 {
		return -rounded(-sum)
	}
	return saturated((sum + api.One/2) / api.One)
}

func wantSum(a, b int) int {
	return saturated(saturated(a) + saturated(b))
}

func wantDifference(a, b int) int {
	return saturated(saturated(a) - saturated(b))
}

func wantProduct(a, b int) int {
	return rounded(saturated(a) * saturated(b))
}

func wantTurned(a int, v api.Vec) api.Vec {
	r, x, y := angle.Rot(a), saturated(v.X), saturated(v.Y)
	return vec(rounded(r.Cos*x-r.Sin*y), rounded(r.Sin*x+r.Cos*y))
}

func wantApply(m moved) api.Vec {
	v := wantTurned(m.t.Angle, m.v)
	return vec(wantSum(v.X, m.t.Position.X), wantSum(v.Y, m.t.Position.Y))
}

func wantApplyInverse(m moved) api.Vec {
	r := angle.Rot(m.t.Angle)
	x, y := wantDifference(m.v.X, m.t.Position.X), wantDifference(m.v.Y, m.t.Position.Y)
	return vec(rounded(r.Cos*x+r.Sin*y), rounded(r.Cos*y-r.Sin*x))
}

func wantMul(m composed) api.Transform {
	position := wantApply(moved{m.a, m.b.Position})
	return at(position.X, position.Y, angle.Normalize(angle.Normalize(m.a.Angle)+angle.Normalize(m.b.Angle)))
}

func wantInterpolate(m mixed) api.Transform {
	a, b := m.a.Position, m.b.Position
	start, gap := angle.Normalize(m.a.Angle), angle.Diff(m.a.Angle, m.b.Angle)
	x := wantSum(a.X, wantProduct(wantDifference(b.X, a.X), m.t))
	y := wantSum(a.Y, wantProduct(wantDifference(b.Y, a.Y), m.t))
	return at(x, y, angle.Normalize(start+wantProduct(gap, m.t)))
}

func wantIntegrate(m motion) api.Transform {
	turned := angle.Normalize(angle.Normalize(m.t.Angle) + wantProduct(m.spin, m.dt))
	before, after := wantApply(moved{m.t, m.center}), wantTurned(turned, m.center)
	x := wantSum(before.X, wantProduct(m.velocity.X, m.dt))
	y := wantSum(before.Y, wantProduct(m.velocity.Y, m.dt))
	return at(wantDifference(x, after.X), wantDifference(y, after.Y), turned)
}

// edges are the numbers at and beside each limit that the chapter names, with both signs.
func edges() []int {
	middles := []int{0, half, one, reach, limit, most, quarter, pi, turn, 3 * pi, 1 << 32, 1 << 62}
	numbers := []int{math.MaxInt - 1, math.MaxInt, math.MinInt, math.MinInt + 1}
	for _, middle := range middles {
		for near := middle - 1; near <= middle+1; near++ {
			numbers = append(numbers, near, -near)
		}
	}
	return numbers
}

// spread returns count numbers from the whole range of int, with magnitudes of every length; the same at each call.
func spread(seed int64, count int) []int {
	source := rand.New(rand.NewSource(seed))
	numbers := make([]int, count)
	for i := range numbers {
		numbers[i] = int(source.Uint64()) >> source.Intn(64)
	}
	return numbers
}

// vectors are all that have edges as components, and others from the whole range of int.
func vectors() []api.Vec {
	list := grid(edges())
	numbers := spread(1, 20000)
	for i := 0; i < len(numbers); i += 2 {
		list = append(list, vec(numbers[i], numbers[i+1]))
	}
	return list
}

func grid(numbers []int) []api.Vec {
	var list []api.Vec
	for _, x := range numbers {
		for _, y := range numbers {
			list = append(list, vec(x, y))
		}
	}
	return list
}

// transforms joins each of vectors with an edge and with an angle from the whole range of int.
func transforms() []api.Transform {
	angles, others := edges(), spread(2, 5000)
	var list []api.Transform
	for i, v := range vectors() {
		list = append(list, at(v.X, v.Y, angles[i%len(angles)]), at(v.X, v.Y, others[i%len(others)]))
	}
	return list
}

// validTransforms reach up to the limits of validity.
func validTransforms() []api.Transform {
	numbers := spread(3, 3000)
	var list []api.Transform
	for i, v := range grid([]int{0, 1, -one, limit - 1, limit, 1 - limit, -limit}) {
		for _, a := range []int{-pi, 1 - pi, -quarter, -1, 0, 1, one, quarter, 3 * one, pi - 1} {
			list = append(list, at(v.X, v.Y, a))
		}
		list = append(list, at(v.X, v.Y, angle.Normalize(numbers[i])))
	}
	for i := 0; i < len(numbers); i += 3 {
		list = append(list, at(numbers[i]%(limit+1), numbers[i+1]%(limit+1), angle.Normalize(numbers[i+2])))
	}
	return list
}

// centers reach up to MaxCoordinate.
func centers() []api.Vec {
	list := grid([]int{0, 1, -half, reach - 1, reach, 1 - reach, -reach})
	numbers := spread(4, 60)
	for i := 0; i < len(numbers); i += 2 {
		list = append(list, vec(numbers[i]%(reach+1), numbers[i+1]%(reach+1)))
	}
	return list
}

func movedPoints() []moved {
	points := vectors()
	var list []moved
	for i, t := range transforms() {
		list = append(list, moved{t, points[(7*i+3)%len(points)]}, moved{t, t.Position})
	}
	return list
}

func composedTransforms() []composed {
	bs := transforms()
	var list []composed
	for i, a := range transforms() {
		list = append(list, composed{a, bs[(7*i+3)%len(bs)]})
	}
	return list
}

// mixedTransforms has every edge as a parameter, and others from the whole range of int.
func mixedTransforms() []mixed {
	parameters, others := edges(), spread(5, 5000)
	var list []mixed
	for i, m := range composedTransforms() {
		list = append(list, mixed{m.a, m.b, parameters[i%len(parameters)]}, mixed{m.a, m.b, others[i%len(others)]})
	}
	return list
}

// motions has valid transforms with ordinary centers as well as anything.
func motions() []motion {
	points, numbers, middles := vectors(), spread(6, 7000), centers()
	times := append(edges(), one/8, one/60, one/1024)
	var list []motion
	for i, t := range append(transforms(), validTransforms()...) {
		velocity := points[(5*i+1)%len(points)]
		list = append(list,
			motion{t, points[(7*i+3)%len(points)], velocity, numbers[i%len(numbers)], times[i%len(times)]},
			motion{t, middles[i%len(middles)], vec(velocity.X%(256*one), velocity.Y%(256*one)), numbers[i%len(numbers)] % (64 * one), times[len(times)-1-i%3]},
		)
	}
	return list
}
