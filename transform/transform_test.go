package transform_test

import (
	"math"
	"testing"

	"carom/api"
	"carom/transform"
)

const (
	one     = api.One
	half    = api.One / 2
	quarter = api.HalfPi
	pi      = api.Pi
	turn    = api.TwoPi
	limit   = api.WorldLimit
	reach   = api.MaxCoordinate
	most    = api.MaxValue
	far     = 1 << 40
	low     = math.MinInt
	high    = math.MaxInt
)

// The arguments of one call.
type (
	moved struct {
		t api.Transform
		v api.Vec
	}
	composed struct{ a, b api.Transform }
	mixed    struct {
		a, b api.Transform
		t    int
	}
	motion struct {
		t                api.Transform
		center, velocity api.Vec
		spin, dt         int
	}
)

// row is a row of a table: the arguments and the value that the chapter asks for.
type row[A any, R comparable] struct {
	args A
	want R
}

func vec(x, y int) api.Vec {
	return api.Vec{X: x, Y: y}
}

func at(x, y, angle int) api.Transform {
	return api.Transform{Position: vec(x, y), Angle: angle}
}

// check compares call with the rows and, on the samples, with oracle, which is held against the rows as well.
func check[A any, R comparable](t *testing.T, name string, call, oracle func(A) R, rows []row[A, R], samples []A) {
	t.Helper()
	for _, r := range rows {
		if got := call(r.args); got != r.want {
			t.Errorf("%s%v = %v, want %v", name, r.args, got, r.want)
		}
		if expected := oracle(r.args); expected != r.want {
			t.Errorf("%s%v: the oracle says %v, the row %v", name, r.args, expected, r.want)
		}
	}
	for _, args := range samples {
		if got, want := call(args), oracle(args); got != want {
			t.Fatalf("%s%v = %v, want %v", name, args, got, want)
		}
	}
}

// P4.1
func TestValid(t *testing.T) {
	inside := []int{0, 1, -1, one, -3 * one, 1 - limit, limit - 1, -limit, limit}
	outside := []int{limit + 1, -limit - 1, most, -most, 1 << 32, far, -far, low, low + 1, high}
	normalized := []int{0, 1, -1, quarter, -quarter, 3 * one, 1 - pi, -pi, pi - 1}
	others := []int{pi, pi + 1, -pi - 1, turn, -turn, most, 1 << 32, far, -far, low, low + 1, high}
	for i, x := range append(inside, outside...) {
		for j, y := range append(inside, outside...) {
			for k, angle := range append(normalized, others...) {
				want := i < len(inside) && j < len(inside) && k < len(normalized)
				if got := transform.Valid(at(x, y, angle)); got != want {
					t.Errorf("Valid(%v) = %v, want %v", at(x, y, angle), got, want)
				}
			}
		}
	}
}

// P4.1
func TestApply(t *testing.T) {
	check(t, "Apply", func(m moved) api.Vec { return transform.Apply(m.t, m.v) }, wantApply, []row[moved, api.Vec]{
		{moved{at(0, 0, 0), vec(3, -4)}, vec(3, -4)},
		{moved{at(one, 0, quarter), vec(one, 0)}, vec(one, one)},
		{moved{at(one, 2*one, -quarter), vec(3*one, -4*one)}, vec(-3*one, -one)},
		{moved{at(5, 7, -pi), vec(one, 2*one)}, vec(-65531, -131065)},
		{moved{at(-3*one, half, one), vec(2*one, -one)}, vec(-70657, 107675)},
		{moved{at(-3*one, half, -one), vec(2*one, -one)}, vec(-180963, -112937)},
		{moved{at(123456, -654321, 34315), vec(-77777, 33333)}, vec(39430, -664326)},
		{moved{at(0, 0, 1), vec(reach, reach)}, vec(1048544, 1048608)},
		{moved{at(0, 0, quarter-1), vec(reach, -reach)}, vec(1048608, 1048544)},
		// At Pi and -Pi, and beside them.
		{moved{at(9, 9, pi-1), vec(5*one, one)}, vec(-327673, -65517)},
		{moved{at(9, 9, pi), vec(5*one, one)}, vec(-327671, -65527)},
		{moved{at(9, 9, pi+1), vec(5*one, one)}, vec(-327669, -65537)},
		{moved{at(9, 9, -pi), vec(5*one, one)}, vec(-327671, -65527)},
		{moved{at(9, 9, 1-pi), vec(5*one, one)}, vec(-327669, -65537)},
		{moved{at(9, 9, -pi-1), vec(5*one, one)}, vec(-327673, -65517)},
		// Angles that are not normalized.
		{moved{at(0, 0, turn+quarter), vec(one, 2*one)}, vec(-2*one, one)},
		{moved{at(0, 0, -5*turn-quarter), vec(one, 2*one)}, vec(2*one, -one)},
		{moved{at(0, 0, high), vec(one, 2*one)}, vec(51034, -137372)},
		{moved{at(0, 0, low), vec(one, 2*one)}, vec(-140519, -41593)},
		// At the limit of the world and beyond: the sum saturates.
		{moved{at(limit, -limit, 0), vec(reach, reach)}, vec(269484032, -267386880)},
		{moved{at(limit, -limit, quarter), vec(limit-1, limit)}, vec(0, -1)},
		{moved{at(limit, -limit, 0), vec(limit-1, -limit)}, vec(most, -most)},
		{moved{at(limit, limit+1, -quarter), vec(limit+5, limit)}, vec(most, -4)},
		{moved{at(most, -most, 0), vec(1, -1)}, vec(most, -most)},
		{moved{at(most, -most, -pi), vec(1, -1)}, vec(most-1, 1-most)},
		// The position and the components are saturated first.
		{moved{at(far, low, 0), vec(-one, one)}, vec(536805375, -536805375)},
		{moved{at(0, 0, half), vec(high, low)}, vec(most, -213925888)},
		{moved{at(high, high, quarter), vec(high, high)}, vec(0, most)},
		{moved{at(0, 0, 3*quarter/2), vec(far, far)}, vec(-most, 0)},
		{moved{at(most, 0, quarter/2), vec(-most, -most)}, vec(most, -most)},
	}, movedPoints())
}

// P4.1
func TestApplyInverse(t *testing.T) {
	check(t, "ApplyInverse", func(m moved) api.Vec { return transform.ApplyInverse(m.t, m.v) }, wantApplyInverse, []row[moved, api.Vec]{
		{moved{at(0, 0, 0), vec(3, -4)}, vec(3, -4)},
		{moved{at(one, 0, quarter), vec(one, one)}, vec(one, 0)},
		{moved{at(one, 2*one, quarter), vec(one, 3*one)}, vec(one, 0)},
		{moved{at(one, 2*one, -quarter), vec(-3*one, -one)}, vec(3*one, -4*one)},
		{moved{at(5, 7, -pi), vec(one, 2*one)}, vec(-65531, -131065)},
		{moved{at(-3*one, half, one), vec(2*one, -one)}, vec(94266, -328864)},
		{moved{at(-3*one, half, -one), vec(2*one, -one)}, vec(259725, 222667)},
		{moved{at(123456, -654321, 34315), vec(-77777, 33333)}, vec(169417, 696184)},
		{moved{at(0, 0, 1), vec(reach, reach)}, vec(1048608, 1048544)},
		// At Pi and -Pi, and beside them.
		{moved{at(9, 9, pi-1), vec(5*one, one)}, vec(-327669, -65537)},
		{moved{at(9, 9, pi), vec(5*one, one)}, vec(-327671, -65527)},
		{moved{at(9, 9, pi+1), vec(5*one, one)}, vec(-327673, -65517)},
		{moved{at(9, 9, -pi), vec(5*one, one)}, vec(-327671, -65527)},
		{moved{at(9, 9, 1-pi), vec(5*one, one)}, vec(-327673, -65517)},
		{moved{at(9, 9, -pi-1), vec(5*one, one)}, vec(-327669, -65537)},
		// Angles that are not normalized.
		{moved{at(0, 0, turn+quarter), vec(one, 2*one)}, vec(2*one, -one)},
		{moved{at(0, 0, high), vec(one, 2*one)}, vec(-140518, -41596)},
		{moved{at(0, 0, low), vec(one, 2*one)}, vec(51037, -137371)},
		// At the limit of the world and beyond: the difference saturates before it is turned.
		{moved{at(limit, -limit, 0), vec(limit, -limit)}, vec(0, 0)},
		{moved{at(limit, -limit, quarter), vec(-limit, limit)}, vec(most, most)},
		{moved{at(limit, -limit, 0), vec(1-limit, limit-1)}, vec(-most, most)},
		{moved{at(-limit, limit+1, pi), vec(limit, -limit)}, vec(-most, most)},
		{moved{at(-most, most, 0), vec(1, -1)}, vec(most, -most)},
		{moved{at(most, -most, 0), vec(1, -1)}, vec(1-most, most-1)},
		// The position and the components are saturated first.
		{moved{at(far, low, 0), vec(one, -one)}, vec(-536805375, 536805375)},
		{moved{at(low, high, quarter), vec(high, low)}, vec(-most, -most)},
		{moved{at(high, high, one), vec(high, high)}, vec(0, 0)},
		{moved{at(0, 0, quarter/2), vec(far, far)}, vec(most, 0)},
		{moved{at(far, far, quarter/2), vec(-1, -1)}, vec(-most, 0)},
	}, movedPoints())
}

// P4.2
func TestMul(t *testing.T) {
	check(t, "Mul", func(m composed) api.Transform { return transform.Mul(m.a, m.b) }, wantMul, []row[composed, api.Transform]{
		{composed{at(0, 0, 0), at(3, -4, 5)}, at(3, -4, 5)},
		{composed{at(3, -4, 5), at(0, 0, 0)}, at(3, -4, 5)},
		{composed{at(one, 2*one, quarter), at(one, 2*one, quarter)}, at(-one, 3*one, -pi)},
		{composed{at(one, 2*one, quarter), at(3*one, 0, -one)}, at(one, 5*one, 37408)},
		{composed{at(3*one, 0, -one), at(one, 2*one, quarter)}, at(342313, 15645, 37408)},
		{composed{at(-3*one, half, one), at(2*one, -one, one)}, at(-70657, 107675, 2*one)},
		{composed{at(123456, -654321, 34315), at(-77777, 33333, -123456)}, at(39430, -664326, -89141)},
		// The sum of the angles is normalized.
		{composed{at(0, 0, quarter), at(0, 0, quarter-1)}, at(0, 0, pi-1)},
		{composed{at(0, 0, quarter), at(0, 0, quarter+1)}, at(0, 0, 1-pi)},
		{composed{at(0, 0, -quarter), at(0, 0, -quarter)}, at(0, 0, -pi)},
		{composed{at(0, 0, -quarter), at(0, 0, -quarter-1)}, at(0, 0, pi-1)},
		{composed{at(0, 0, -pi), at(0, 0, -pi)}, at(0, 0, 0)},
		{composed{at(0, 0, pi-1), at(0, 0, pi-1)}, at(0, 0, -2)},
		{composed{at(0, 0, -pi), at(0, 0, pi-1)}, at(0, 0, -1)},
		{composed{at(0, 0, pi), at(one, 0, 1)}, at(-one, 0, 1-pi)},
		{composed{at(0, 0, 1), at(one, 0, pi)}, at(one, 2, 1-pi)},
		{composed{at(one, one, -pi-1), at(one, 0, pi+1)}, at(0, 65538, 0)},
		// The angles are normalized before they are added, so that nothing overflows.
		{composed{at(0, 0, 5*turn+7), at(0, 0, -3*turn-9)}, at(0, 0, -2)},
		{composed{at(0, 0, high), at(0, 0, high)}, at(0, 0, 107390)},
		{composed{at(0, 0, low), at(one, 0, low)}, at(-44741, 47889, -107392)},
		{composed{at(0, 0, low), at(0, 0, -1)}, at(0, 0, 152191)},
		{composed{at(0, 0, high), at(0, 0, low)}, at(0, 0, -1)},
		// At the limit of the world and beyond: the sum saturates.
		{composed{at(limit, -limit, 0), at(limit, -limit, 1)}, at(most, -most, 1)},
		{composed{at(limit, -limit, 0), at(limit-1, 1-limit, 1)}, at(most, -most, 1)},
		{composed{at(-limit-1, limit+1, quarter), at(limit+1, limit, 1)}, at(-most, most, quarter+1)},
		{composed{at(high, low, 0), at(-one, one, 0)}, at(536805375, -536805375, 0)},
		{composed{at(one, -one, pi), at(high, low, 0)}, at(-536805375, 536805375, -pi)},
	}, composedTransforms())
}

// P4.2
func TestInterpolate(t *testing.T) {
	check(t, "Interpolate", func(m mixed) api.Transform { return transform.Interpolate(m.a, m.b, m.t) }, wantInterpolate, []row[mixed, api.Transform]{
		{mixed{at(0, 0, 0), at(0, 0, 0), half}, at(0, 0, 0)},
		{mixed{at(0, 0, 3), at(4, 0, 7), half}, at(2, 0, 5)},
		{mixed{at(one, -one, one), at(3*one, one, 2*one), half}, at(2*one, 0, 98304)},
		{mixed{at(one, -one, one), at(3*one, one, 2*one), one / 4}, at(98304, -half, 81920)},
		{mixed{at(3*one, one, 2*one), at(one, -one, one), one / 4}, at(163840, half, 114688)},
		{mixed{at(123456, -654321, 34315), at(-77777, 33333, -50000), 54321}, at(-43341, -84343, -35571)},
		// At the ends and beyond them.
		{mixed{at(5, 6, 7), at(one, 2*one, 3*one), 0}, at(5, 6, 7)},
		{mixed{at(5, 6, 7), at(one, 2*one, 3*one), 1}, at(6, 8, 10)},
		{mixed{at(5, 6, 7), at(one, 2*one, 3*one), one - 1}, at(65535, 131070, 196605)},
		{mixed{at(5, 6, 7), at(one, 2*one, 3*one), one}, at(one, 2*one, 3*one)},
		{mixed{at(5, 6, 7), at(one, 2*one, 3*one), one + 1}, at(65537, 131074, 196611)},
		{mixed{at(5, 6, 7), at(one, 2*one, 3*one), -1}, at(4, 4, 4)},
		{mixed{at(5, 6, 7), at(one, 2*one, 3*one), 2 * one}, at(131067, 262138, -18567)},
		{mixed{at(5, 6, 7), at(one, 2*one, 3*one), -one}, at(-65526, -131060, -196594)},
		// Halves go away from zero.
		{mixed{at(0, 0, 0), at(1, -1, 1), half}, at(1, -1, 1)},
		{mixed{at(0, 0, 0), at(1, -1, -1), half}, at(1, -1, -1)},
		{mixed{at(0, 0, 0), at(1, -1, -1), half - 1}, at(0, 0, 0)},
		{mixed{at(1, -1, 1), at(0, 0, 0), half}, at(0, 0, 0)},
		// The shorter way may lead over Pi, and half a turn goes backwards.
		{mixed{at(0, 0, pi-2), at(0, 0, 2-pi), half}, at(0, 0, -pi)},
		{mixed{at(0, 0, pi-2), at(0, 0, 2-pi), one}, at(0, 0, 2-pi)},
		{mixed{at(0, 0, 2-pi), at(0, 0, pi-4), one}, at(0, 0, pi-4)},
		{mixed{at(0, 0, 3*one), at(0, 0, -3*one), half}, at(0, 0, -pi)},
		{mixed{at(0, 0, quarter), at(0, 0, -quarter), half}, at(0, 0, 0)},
		{mixed{at(0, 0, -quarter), at(0, 0, quarter), half}, at(0, 0, -pi)},
		{mixed{at(0, 0, 0), at(0, 0, -pi), half}, at(0, 0, -quarter)},
		{mixed{at(0, 0, 0), at(0, 0, pi), one}, at(0, 0, -pi)},
		{mixed{at(0, 0, -pi), at(0, 0, pi-1), half}, at(0, 0, pi-1)},
		{mixed{at(0, 0, -pi), at(0, 0, pi-1), one}, at(0, 0, pi-1)},
		{mixed{at(0, 0, pi-1), at(0, 0, -pi), one}, at(0, 0, -pi)},
		{mixed{at(0, 0, 0), at(0, 0, pi-1), one}, at(0, 0, pi-1)},
		{mixed{at(0, 0, 1), at(0, 0, -pi), one}, at(0, 0, -pi)},
		{mixed{at(0, 0, 0), at(0, 0, pi-1), 2 * one}, at(0, 0, -2)},
		// Angles that are not normalized.
		{mixed{at(1, 2, pi), at(3, 4, -pi), half}, at(2, 3, -pi)},
		{mixed{at(1, 2, turn+3), at(1, 2, 5*turn+7), 0}, at(1, 2, 3)},
		{mixed{at(1, 2, turn+3), at(1, 2, 5*turn+7), half}, at(1, 2, 5)},
		{mixed{at(1, 2, high), at(3, 4, high), 0}, at(1, 2, -152193)},
		{mixed{at(1, 2, low), at(3, 4, high), half}, at(2, 3, -pi)},
		{mixed{at(1, 2, high), at(3, 4, low), one}, at(3, 4, 152192)},
		{mixed{at(1, 2, low), at(3, 4, high), -one}, at(-1, 0, 44801)},
		{mixed{at(1, 2, low), at(3, 4, 0), one}, at(3, 4, 0)},
		// From one limit of the world to the other the difference saturates, so that the far end is not reached.
		{mixed{at(limit, -limit, 0), at(-limit, limit, 0), 0}, at(limit, -limit, 0)},
		{mixed{at(limit, -limit, 0), at(-limit, limit, 0), half}, at(0, 0, 0)},
		{mixed{at(limit, -limit, 0), at(-limit, limit, 0), one}, at(1-limit, limit-1, 0)},
		{mixed{at(limit, -limit, 0), at(1-limit, limit-1, 0), one}, at(1-limit, limit-1, 0)},
		{mixed{at(limit+1, -limit-1, 0), at(0, 0, 0), 0}, at(limit+1, -limit-1, 0)},
		// The components and the parameter are saturated first.
		{mixed{at(far, low, 5), at(0, 0, 5), 0}, at(most, -most, 5)},
		{mixed{at(0, 0, 0), at(high, low, 9), one}, at(most, -most, 9)},
		{mixed{at(0, 0, 0), at(one, -one, one), high}, at(most, -most, -84993)},
		{mixed{at(0, 0, 0), at(one, -one, one), low}, at(-most, most, 84993)},
		{mixed{at(0, 0, 0), at(1, -1, -1), far}, at(8192, -8192, -8192)},
	}, mixedTransforms())
}

// P4.3
func TestIntegrate(t *testing.T) {
	check(t, "Integrate", func(m motion) api.Transform { return transform.Integrate(m.t, m.center, m.velocity, m.spin, m.dt) }, wantIntegrate, []row[motion, api.Transform]{
		{motion{at(0, 0, 0), vec(0, 0), vec(0, 0), 0, 0}, at(0, 0, 0)},
		{motion{at(0, 0, 0), vec(0, 0), vec(one, 0), one, half}, at(half, 0, half)},
		{motion{at(one, 2*one, quarter), vec(one, 0), vec(0, 0), 2 * quarter, half}, at(2*one, 3*one, -pi)},
		{motion{at(one, 2*one, one), vec(3*one, -one), vec(-2*one, 5*one), -3 * one, one / 8}, at(12706, 240234, 40960)},
		{motion{at(one, 2*one, one), vec(3*one, -one), vec(-2*one, 5*one), 3 * one, one / 8}, at(107993, 121975, 90112)},
		{motion{at(123456, -654321, 34315), vec(-77777, 33333), vec(54321, 98765), -43210, 7777}, at(130427, -649204, 29187)},
		// A center at the origin, a turn alone, and a velocity alone.
		{motion{at(one, 2*one, one), vec(0, 0), vec(-2*one, 5*one), 3 * one, one / 8}, at(49152, 172032, 90112)},
		{motion{at(one, 2*one, one), vec(half, half), vec(0, 0), 3 * one, one / 8}, at(81432, 137834, 90112)},
		{motion{at(one, 2*one, one), vec(half, half), vec(-2*one, 5*one), 0, one / 8}, at(49152, 172032, one)},
		// Zero velocities, zero and negative times, and products that are rounded.
		{motion{at(5, 6, 7), vec(one, -one), vec(0, 0), 0, one}, at(5, 6, 7)},
		{motion{at(5, 6, 7), vec(one, -one), vec(8*one, 9*one), 10 * one, 0}, at(5, 6, 7)},
		{motion{at(5, 6, 7), vec(one, -one), vec(8*one, 9*one), 10 * one, -one / 8}, at(41547, -56398, -81913)},
		{motion{at(5, 6, 7), vec(one, -one), vec(3, -3), 3, half}, at(4, 1, 9)},
		{motion{at(5, 6, 7), vec(one, -one), vec(3, -3), -3, half}, at(8, 5, 5)},
		{motion{at(5, 6, 7), vec(one, -one), vec(1, -1), 1, half - 1}, at(5, 6, 7)},
		// Over Pi, and angles that are not normalized.
		{motion{at(0, 0, pi-1), vec(one, 0), vec(0, 0), one, 1}, at(0, 2, -pi)},
		{motion{at(0, 0, -pi), vec(one, 0), vec(0, 0), -one, 1}, at(0, -2, pi-1)},
		{motion{at(0, 0, pi-1), vec(0, 0), vec(0, 0), 0, one}, at(0, 0, pi-1)},
		{motion{at(0, 0, -pi), vec(0, 0), vec(0, 0), 64 * one, one / 8}, at(0, 0, -93376)},
		{motion{at(0, 0, pi), vec(0, one), vec(0, 0), 0, 0}, at(0, 0, -pi)},
		{motion{at(0, 0, turn+3), vec(0, 0), vec(0, 0), 4, one}, at(0, 0, 7)},
		{motion{at(0, 0, high), vec(one, one), vec(0, 0), 5, one}, at(-6, 0, -152188)},
		{motion{at(0, 0, low), vec(one, one), vec(0, 0), -5, one}, at(-1, -7, 152187)},
		// At the limit of the world and beyond.
		{motion{at(limit, -limit, one), vec(reach, -reach), vec(0, 0), 0, one / 8}, at(limit, -limit, one)},
		{motion{at(-limit, limit, -pi), vec(-reach, reach), vec(0, 0), 0, one / 8}, at(-limit, limit, -pi)},
		{motion{at(limit, -limit, 0), vec(0, 0), vec(256*one, -256*one), 0, one / 8}, at(270532608, -270532608, 0)},
		{motion{at(limit+1, -limit-1, 0), vec(reach, reach), vec(1, -1), 0, one}, at(limit+2, -limit-2, 0)},
		// The moved center saturates before the turned one is subtracted.
		{motion{at(most, -most, 0), vec(1, -1), vec(0, 0), 0, 0}, at(most-1, 1-most, 0)},
		{motion{at(most, -most, 0), vec(one, -one), vec(one, -one), 0, one}, at(536805375, -536805375, 0)},
		{motion{at(most, -most, 0), vec(one, -one), vec(-one, one), 0, one}, at(536739839, -536739839, 0)},
		{motion{at(0, 0, 0), vec(most, 0), vec(0, 0), pi, one}, at(most, 0, -pi)},
		// The arguments are saturated first, and so is the angle of the turn.
		{motion{at(far, low, 0), vec(0, 0), vec(-one, one), 0, one}, at(536805375, -536805375, 0)},
		{motion{at(0, 0, 0), vec(0, 0), vec(high, low), high, high}, at(most, -most, -84993)},
		{motion{at(0, 0, 0), vec(0, 0), vec(high, low), low, high}, at(most, -most, 84993)},
		{motion{at(0, 0, 0), vec(0, 0), vec(1, 1), 1, low}, at(-8192, -8192, -8192)},
		{motion{at(0, 0, half), vec(high, low), vec(low, high), low, low}, at(most, 0, -52225)},
		{motion{at(high, low, high), vec(high, low), vec(high, low), high, high}, at(most, -most, 174590)},
		{motion{at(0, 0, pi-1), vec(0, 0), vec(0, 0), most, one}, at(0, 0, 120894)},
		{motion{at(0, 0, -pi), vec(0, 0), vec(0, 0), -most, one}, at(0, 0, -120895)},
	}, motions())
}

// P4.4
func TestInterpolateStartsAtFirst(t *testing.T) {
	anything := transforms()
	for i, a := range validTransforms() {
		for _, b := range []api.Transform{a, at(-a.Position.X, -a.Position.Y, a.Angle+pi), anything[i%len(anything)], anything[(7*i+3)%len(anything)]} {
			if got := transform.Interpolate(a, b, 0); got != a {
				t.Fatalf("Interpolate(%v, %v, 0) = %v", a, b, got)
			}
		}
	}
}

// P4.4
func TestIntegrateAtRestChangesNothing(t *testing.T) {
	times := append(edges(), 0, 1, one/1024, one/8)
	for i, start := range validTransforms() {
		for j, center := range centers() {
			dt := times[(i+j)%len(times)]
			if got := transform.Integrate(start, center, api.Vec{}, 0, dt); got != start {
				t.Fatalf("Integrate(%v, %v, {0 0}, 0, %d) = %v", start, center, dt, got)
			}
		}
	}
}

// P4.3, P4.4: in zero time nothing moves, whatever the velocities.
func TestIntegrateInNoTimeChangesNothing(t *testing.T) {
	points := vectors()
	for i, start := range validTransforms() {
		for j, center := range centers() {
			velocity, spin := points[(3*i+j)%len(points)], points[(i+5*j)%len(points)].X
			if got := transform.Integrate(start, center, velocity, spin, 0); got != start {
				t.Fatalf("Integrate(%v, %v, %v, %d, 0) = %v", start, center, velocity, spin, got)
			}
		}
	}
}
