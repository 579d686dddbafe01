package vec2_test

import (
	"math"
	"testing"

	"carom/api"
	"carom/vec2"
)

const (
	one  = api.One
	half = api.One / 2
	most = api.MaxValue
	far  = 1 << 40
	low  = math.MinInt
	high = math.MaxInt
)

// The arguments of one call.
type (
	pair   struct{ a, b api.Vec }
	triple struct{ a, b, c api.Vec }
	scaled struct {
		v api.Vec
		k int
	}
	mixed struct {
		a, b api.Vec
		t    int
	}
	turned struct {
		r api.Rot
		v api.Vec
	}
)

// row is a row of a table: the arguments and the value that the chapter asks for.
type row[A any, R comparable] struct {
	args A
	want R
}

func vec(x, y int) api.Vec {
	return api.Vec{X: x, Y: y}
}

func rot(c, s int) api.Rot {
	return api.Rot{Cos: c, Sin: s}
}

// check compares call with the rows and, on the samples, with oracle, which is held against the rows as well.
func check[A any, R comparable](t *testing.T, name string, call, oracle func(A) R, rows []row[A, R], samples []A) {
	t.Helper()
	for _, r := range rows {
		if got := call(r.args); got != r.want {
			t.Errorf("%s%v = %v, want %v", name, r.args, got, r.want)
		}
		if expected := oracle(r.args); expected != r.want {
			t.Errorf("%s%v: the oracle says %v, the row %v", name, r.args, expected, r.want)
		}
	}
	for _, args := range samples {
		if got, want := call(args), oracle(args); got != want {
			t.Fatalf("%s%v = %v, want %v", name, args, got, want)
		}
	}
}

// P3.1
func TestAdd(t *testing.T) {
	check(t, "Add", func(p pair) api.Vec { return vec2.Add(p.a, p.b) }, wantAdd, []row[pair, api.Vec]{
		{pair{vec(0, 0), vec(0, 0)}, vec(0, 0)},
		{pair{vec(3, -4), vec(5, 6)}, vec(8, 2)},
		{pair{vec(one, 2*one), vec(-3*one, one)}, vec(-2*one, 3*one)},
		{pair{vec(most-1, 1-most), vec(1, -1)}, vec(most, -most)},
		{pair{vec(most, -most), vec(1, -1)}, vec(most, -most)},
		{pair{vec(most, -most), vec(-1, 1)}, vec(most-1, 1-most)},
		// The components are saturated before they are added.
		{pair{vec(2*most, -2*most), vec(-most, most)}, vec(0, 0)},
		{pair{vec(most+5, -most-5), vec(-5, 5)}, vec(most-5, 5-most)},
		{pair{vec(far, -far), vec(0, 0)}, vec(most, -most)},
		{pair{vec(high, low), vec(high, low)}, vec(most, -most)},
		{pair{vec(high, low), vec(low, high)}, vec(0, 0)},
	}, pairs())
}

// P3.1
func TestSub(t *testing.T) {
	check(t, "Sub", func(p pair) api.Vec { return vec2.Sub(p.a, p.b) }, wantSub, []row[pair, api.Vec]{
		{pair{vec(0, 0), vec(0, 0)}, vec(0, 0)},
		{pair{vec(3, -4), vec(5, 6)}, vec(-2, -10)},
		{pair{vec(one, 2*one), vec(-3*one, one)}, vec(4*one, one)},
		{pair{vec(most-1, 1-most), vec(-1, 1)}, vec(most, -most)},
		{pair{vec(most, -most), vec(-1, 1)}, vec(most, -most)},
		{pair{vec(2*most, -2*most), vec(most, -most)}, vec(0, 0)},
		{pair{vec(most+5, -most-5), vec(5, -5)}, vec(most-5, 5-most)},
		{pair{vec(0, 0), vec(low, high)}, vec(most, -most)},
		{pair{vec(low, high), vec(low, high)}, vec(0, 0)},
		{pair{vec(high, low), vec(low, high)}, vec(most, -most)},
	}, pairs())
}

// P3.1
func TestScale(t *testing.T) {
	check(t, "Scale", func(s scaled) api.Vec { return vec2.Scale(s.v, s.k) }, wantScale, []row[scaled, api.Vec]{
		{scaled{vec(3*one, -4*one), half}, vec(98304, -131072)},
		{scaled{vec(3*one, -4*one), 0}, vec(0, 0)},
		{scaled{vec(0, 0), most}, vec(0, 0)},
		{scaled{vec(7, -9), one}, vec(7, -9)},
		{scaled{vec(123456, -654321), 54321}, vec(102329, -542349)},
		// Halves go away from zero.
		{scaled{vec(1, -1), half}, vec(1, -1)},
		{scaled{vec(1, -1), half - 1}, vec(0, 0)},
		{scaled{vec(3, -3), half}, vec(2, -2)},
		{scaled{vec(3, -3), -half}, vec(-2, 2)},
		{scaled{vec(most, -most), one - 1}, vec(536862719, -536862719)},
		{scaled{vec(most, -most), one + 1}, vec(most, -most)},
		// The components and the number are saturated before they are multiplied.
		{scaled{vec(far, low), half}, vec(1<<28, -1<<28)},
		{scaled{vec(1, -1), high}, vec(8192, -8192)},
		{scaled{vec(1, -1), low}, vec(-8192, 8192)},
		{scaled{vec(high, low), low}, vec(-most, most)},
	}, scaledVectors())
}

// P3.1
func TestPerp(t *testing.T) {
	check(t, "Perp", vec2.Perp, wantPerp, []row[api.Vec, api.Vec]{
		{vec(0, 0), vec(0, 0)}, {vec(1, 0), vec(0, 1)}, {vec(0, 1), vec(-1, 0)}, {vec(3*one, 4*one), vec(-4*one, 3*one)}, {vec(-5, -7), vec(7, -5)},
		{vec(most, -most), vec(most, most)}, {vec(most-1, most), vec(-most, most-1)}, {vec(most+1, -most-1), vec(most, most)},
		// The least int has no negative of its own.
		{vec(low, low), vec(most, -most)}, {vec(high, high), vec(-most, most)}, {vec(0, low), vec(most, 0)},
	}, vectors())
}

// P3.1
func TestCrossScalar(t *testing.T) {
	check(t, "CrossScalar", func(s scaled) api.Vec { return vec2.CrossScalar(s.k, s.v) }, wantCrossScalar, []row[scaled, api.Vec]{
		{scaled{vec(3*one, 4*one), one}, vec(-4*one, 3*one)},
		{scaled{vec(3*one, 4*one), -2 * one}, vec(8*one, -6*one)},
		{scaled{vec(3*one, 4*one), 0}, vec(0, 0)},
		{scaled{vec(0, 0), most}, vec(0, 0)},
		{scaled{vec(123456, -654321), 54321}, vec(542349, 102329)},
		{scaled{vec(1, 1), half}, vec(-1, 1)},
		{scaled{vec(1, 1), -half}, vec(1, -1)},
		{scaled{vec(-1, -1), half}, vec(1, -1)},
		{scaled{vec(1, 1), half - 1}, vec(0, 0)},
		{scaled{vec(most, -most), 2 * one}, vec(most, most)},
		{scaled{vec(most, -most), -2 * one}, vec(-most, -most)},
		{scaled{vec(far, low), half}, vec(1<<28, 1<<28)},
		{scaled{vec(1, -1), high}, vec(8192, 8192)},
		{scaled{vec(1, -1), low}, vec(-8192, -8192)},
		{scaled{vec(high, low), low}, vec(-most, -most)},
	}, scaledVectors())
}

// P3.1
func TestLerp(t *testing.T) {
	check(t, "Lerp", func(m mixed) api.Vec { return vec2.Lerp(m.a, m.b, m.t) }, wantLerp, []row[mixed, api.Vec]{
		{mixed{vec(0, one), vec(4*one, -one), one / 4}, vec(one, half)},
		{mixed{vec(3, -5), vec(one, 2*one), 0}, vec(3, -5)},
		{mixed{vec(3, -5), vec(one, 2*one), one}, vec(one, 2*one)},
		{mixed{vec(one, one), vec(3*one, -3*one), 2 * one}, vec(5*one, -7*one)},
		{mixed{vec(one, one), vec(3*one, -3*one), -one}, vec(-one, 5*one)},
		{mixed{vec(123456, -654321), vec(-77777, 33333), 54321}, vec(-43341, -84343)},
		{mixed{vec(0, 0), vec(10, -3), half}, vec(5, -2)},
		{mixed{vec(10, 10), vec(11, 9), half}, vec(11, 9)},
		{mixed{vec(10, 10), vec(11, 9), half - 1}, vec(10, 10)},
		// The difference saturates, so that the far end is not reached.
		{mixed{vec(-most, most), vec(most, -most), one}, vec(0, 0)},
		{mixed{vec(most, -most), vec(0, 0), -one}, vec(most, -most)},
		{mixed{vec(high, low), vec(0, 0), half}, vec(1<<28-1, 1-1<<28)},
		{mixed{vec(0, 0), vec(high, low), high}, vec(most, -most)},
		{mixed{vec(0, 0), vec(one, -one), low}, vec(-most, most)},
	}, mixedVectors())
}

// P3.2
func TestDot(t *testing.T) {
	check(t, "Dot", func(p pair) int { return vec2.Dot(p.a, p.b) }, wantDot, []row[pair, int]{
		{pair{vec(3*one, 4*one), vec(2*one, -one)}, 2 * one},
		{pair{vec(one, 0), vec(0, one)}, 0},
		{pair{vec(0, 0), vec(most, most)}, 0},
		{pair{vec(123456, -654321), vec(-77777, 33333)}, -479317},
		// Halves go away from zero.
		{pair{vec(1, 0), vec(half, 0)}, 1},
		{pair{vec(-1, 0), vec(half, 0)}, -1},
		{pair{vec(0, 1), vec(0, -half)}, -1},
		{pair{vec(3, 0), vec(half, 0)}, 2},
		{pair{vec(1, 0), vec(half-1, 0)}, 0},
		{pair{vec(-1, 0), vec(half-1, 0)}, 0},
		// The sum is rounded, not the products.
		{pair{vec(1, 1), vec(half/2, half/2)}, 1},
		{pair{vec(1, 1), vec(half, half)}, 1},
		{pair{vec(1, -1), vec(half, half)}, 0},
		// The sum is saturated, not the products.
		{pair{vec(most, most), vec(3*one, -one)}, most},
		{pair{vec(most, most), vec(one, -3*one)}, -most},
		{pair{vec(most, most), vec(one, -one)}, 0},
		{pair{vec(most, 0), vec(one, 0)}, most},
		{pair{vec(most, -one), vec(one, one)}, most - one},
		{pair{vec(most, most), vec(most, most)}, most},
		{pair{vec(most, most), vec(-most, -most)}, -most},
		// The components are saturated first.
		{pair{vec(far, 0), vec(half, 0)}, 1 << 28},
		{pair{vec(far, -far), vec(far, -far)}, most},
		{pair{vec(low, 0), vec(1, 0)}, -8192},
		{pair{vec(low, low), vec(high, high)}, -most},
		{pair{vec(low, high), vec(low, low)}, 0},
	}, pairs())
}

// P3.2
func TestCross(t *testing.T) {
	check(t, "Cross", func(p pair) int { return vec2.Cross(p.a, p.b) }, wantCross, []row[pair, int]{
		{pair{vec(one, 0), vec(0, one)}, one},
		{pair{vec(0, one), vec(one, 0)}, -one},
		{pair{vec(3*one, 4*one), vec(2*one, -one)}, -11 * one},
		{pair{vec(3*one, 4*one), vec(3*one, 4*one)}, 0},
		{pair{vec(0, 0), vec(most, most)}, 0},
		{pair{vec(123456, -654321), vec(-77777, 33333)}, -713745},
		{pair{vec(1, 0), vec(0, half)}, 1},
		{pair{vec(-1, 0), vec(0, half)}, -1},
		{pair{vec(0, 1), vec(half, 0)}, -1},
		{pair{vec(0, 1), vec(-half, 0)}, 1},
		{pair{vec(1, 0), vec(0, half-1)}, 0},
		{pair{vec(0, 1), vec(half-1, 0)}, 0},
		{pair{vec(1, 1), vec(half/2, -half/2)}, -1},
		{pair{vec(1, 1), vec(-half, half)}, 1},
		{pair{vec(1, 1), vec(half, half)}, 0},
		{pair{vec(most, most), vec(one, 3*one)}, most},
		{pair{vec(most, most), vec(3*one, one)}, -most},
		{pair{vec(most, most), vec(one, one)}, 0},
		{pair{vec(most, 0), vec(0, one)}, most},
		{pair{vec(most, -most), vec(most, most)}, most},
		{pair{vec(most, most), vec(most, -most)}, -most},
		{pair{vec(far, 0), vec(0, half)}, 1 << 28},
		{pair{vec(far, -far), vec(far, -far)}, 0},
		{pair{vec(0, low), vec(1, 0)}, 8192},
		{pair{vec(low, high), vec(high, low)}, 0},
		{pair{vec(low, high), vec(high, high)}, -most},
	}, pairs())
}

// P3.2
func TestLength(t *testing.T) {
	check(t, "Length", vec2.Length, wantLength, []row[api.Vec, int]{
		{vec(3*one, 4*one), 5 * one}, {vec(-3*one, 4*one), 5 * one}, {vec(0, 0), 0}, {vec(1, 0), 1}, {vec(0, -7), 7},
		{vec(1, 1), 1}, {vec(2, 2), 2}, {vec(3, 3), 4}, {vec(one, one), 92681}, {vec(123456, -654321), 665865},
		{vec(most-1, 0), most - 1}, {vec(most, 0), most}, {vec(most, 1), most}, {vec(0, -most), most},
		// The components are saturated, the length is not.
		{vec(most, most), 759250123}, {vec(-most, most-1), 759250122}, {vec(most+1, 0), most}, {vec(0, -most-1), most},
		{vec(far, 5), most}, {vec(low, 0), most}, {vec(low, high), 759250123},
	}, vectors())
}

// P3.2
func TestNormalize(t *testing.T) {
	check(t, "Normalize", vec2.Normalize, wantNormalize, []row[api.Vec, api.Vec]{
		{vec(3*one, 4*one), vec(39322, 52429)}, {vec(-3*one, 4*one), vec(-39322, 52429)}, {vec(half, 0), vec(one, 0)}, {vec(0, -5), vec(0, -one)},
		{vec(123456, -654321), vec(12151, -64400)}, {vec(most/2, most/2), vec(46341, 46341)},
		{vec(0, 0), vec(0, 0)},
		// The length is rounded down, so that short vectors become too long.
		{vec(1, 1), vec(one, one)}, {vec(2, -2), vec(one, -one)}, {vec(1, -2), vec(half, -one)},
		{vec(most, 0), vec(one, 0)}, {vec(most, 1), vec(one, 0)}, {vec(0, -most-1), vec(0, -one)}, {vec(far, 0), vec(one, 0)}, {vec(far, 1), vec(one, 0)},
		// Div saturates a length beyond MaxValue.
		{vec(most, most), vec(one, one)}, {vec(-most, most-1), vec(-one, one)}, {vec(low, high), vec(-one, one)}, {vec(most, half), vec(one, 4)},
	}, vectors())
}

// P3.3
func TestRotate(t *testing.T) {
	check(t, "Rotate", func(m turned) api.Vec { return vec2.Rotate(m.r, m.v) }, wantRotate, []row[turned, api.Vec]{
		{turned{rot(one, 0), vec(7, -9)}, vec(7, -9)},
		{turned{rot(0, one), vec(7, 2)}, vec(-2, 7)},
		{turned{rot(-one, 0), vec(most, -most)}, vec(-most, most)},
		{turned{rot(39322, 52429), vec(5*one, 0)}, vec(196610, 262145)},
		{turned{rot(39322, 52429), vec(0, 5*one)}, vec(-262145, 196610)},
		{turned{rot(39322, 52429), vec(3*one, 4*one)}, vec(-91750, 314575)},
		{turned{rot(-39322, -52429), vec(123456, -654321)}, vec(-597533, 293831)},
		{turned{rot(0, 0), vec(most, most)}, vec(0, 0)},
		{turned{rot(most, -most), vec(0, 0)}, vec(0, 0)},
		// Halves go away from zero.
		{turned{rot(half, 0), vec(1, -1)}, vec(1, -1)},
		{turned{rot(half, 0), vec(3, -3)}, vec(2, -2)},
		{turned{rot(0, half), vec(1, -1)}, vec(1, 1)},
		{turned{rot(half-1, half-1), vec(1, 0)}, vec(0, 0)},
		// The sum is rounded, not the products.
		{turned{rot(half/2, -half/2), vec(1, 1)}, vec(1, 0)},
		{turned{rot(half/2, half/2), vec(1, 1)}, vec(0, 1)},
		{turned{rot(half, -half), vec(1, 1)}, vec(1, 0)},
		{turned{rot(half, half), vec(1, 1)}, vec(0, 1)},
		// The sum is saturated, not the products.
		{turned{rot(3*one, one), vec(most, most)}, vec(most, most)},
		{turned{rot(-one, 3*one), vec(most, most)}, vec(-most, most)},
		{turned{rot(one, one), vec(most, most)}, vec(0, most)},
		{turned{rot(most, -most), vec(most, most)}, vec(most, 0)},
		// The fields and the components are saturated first.
		{turned{rot(far, 0), vec(half, 1)}, vec(1<<28, 8192)},
		{turned{rot(one, 0), vec(far, low)}, vec(most, -most)},
		{turned{rot(low, high), vec(1, -1)}, vec(0, 16384)},
		{turned{rot(low, high), vec(high, low)}, vec(0, most)},
	}, turnedVectors())
}

// P3.3
func TestInverseRotate(t *testing.T) {
	check(t, "InverseRotate", func(m turned) api.Vec { return vec2.InverseRotate(m.r, m.v) }, wantInverseRotate, []row[turned, api.Vec]{
		{turned{rot(one, 0), vec(7, -9)}, vec(7, -9)},
		{turned{rot(0, one), vec(-2, 7)}, vec(7, 2)},
		{turned{rot(-one, 0), vec(most, -most)}, vec(-most, most)},
		{turned{rot(39322, 52429), vec(5*one, 0)}, vec(196610, -262145)},
		{turned{rot(39322, 52429), vec(0, 5*one)}, vec(262145, 196610)},
		{turned{rot(39322, 52429), vec(3*one, 4*one)}, vec(327682, 1)},
		{turned{rot(-39322, -52429), vec(123456, -654321)}, vec(449384, 491362)},
		{turned{rot(0, 0), vec(most, most)}, vec(0, 0)},
		{turned{rot(most, -most), vec(0, 0)}, vec(0, 0)},
		{turned{rot(half, 0), vec(1, -1)}, vec(1, -1)},
		{turned{rot(half, 0), vec(3, -3)}, vec(2, -2)},
		{turned{rot(0, half), vec(1, -1)}, vec(-1, -1)},
		{turned{rot(half-1, half-1), vec(1, 0)}, vec(0, 0)},
		{turned{rot(half/2, half/2), vec(1, 1)}, vec(1, 0)},
		{turned{rot(half/2, -half/2), vec(1, 1)}, vec(0, 1)},
		{turned{rot(half, half), vec(1, 1)}, vec(1, 0)},
		{turned{rot(half, -half), vec(1, 1)}, vec(0, 1)},
		{turned{rot(one, 3*one), vec(most, most)}, vec(most, -most)},
		{turned{rot(3*one, -one), vec(most, most)}, vec(most, most)},
		{turned{rot(one, one), vec(most, most)}, vec(most, 0)},
		{turned{rot(most, -most), vec(most, most)}, vec(0, most)},
		{turned{rot(far, 0), vec(half, 1)}, vec(1<<28, 8192)},
		{turned{rot(one, 0), vec(far, low)}, vec(most, -most)},
		{turned{rot(low, high), vec(1, -1)}, vec(-16384, 0)},
		{turned{rot(low, high), vec(high, low)}, vec(-most, 0)},
	}, turnedVectors())
}

// P3.4
func TestOrientation(t *testing.T) {
	corner, opposite := vec(-most, -most), vec(most, most)
	check(t, "Orientation", func(p triple) int { return vec2.Orientation(p.a, p.b, p.c) }, wantOrientation, []row[triple, int]{
		{triple{vec(0, 0), vec(1, 0), vec(0, 1)}, 1},
		{triple{vec(0, 0), vec(0, 1), vec(1, 0)}, -1},
		{triple{vec(0, 0), vec(one, 0), vec(-5*one, 1)}, 1},
		{triple{vec(0, 0), vec(one, 0), vec(5*one, -1)}, -1},
		{triple{vec(7, 7), vec(9, 3), vec(8, 9)}, 1},
		// Points on one line: inside, beyond an end, and equal.
		{triple{vec(0, 0), vec(4, 2), vec(2, 1)}, 0},
		{triple{vec(0, 0), vec(4, 2), vec(6, 3)}, 0},
		{triple{vec(0, 0), vec(4, 2), vec(-2, -1)}, 0},
		{triple{vec(5, 6), vec(5, 6), vec(1, 2)}, 0},
		{triple{vec(5, 6), vec(1, 2), vec(5, 6)}, 0},
		{triple{vec(1, 2), vec(5, 6), vec(5, 6)}, 0},
		{triple{vec(5, 6), vec(5, 6), vec(5, 6)}, 0},
		// Neither the differences nor their products are rounded or saturated.
		{triple{corner, opposite, vec(0, 0)}, 0},
		{triple{corner, vec(most, most-1), vec(0, 0)}, 1},
		{triple{corner, vec(most-1, most), vec(0, 0)}, -1},
		{triple{corner, opposite, vec(most, most-1)}, -1},
		{triple{corner, opposite, vec(most-1, most)}, 1},
		{triple{corner, opposite, vec(1-most, -most)}, -1},
		{triple{corner, opposite, vec(-most, 1-most)}, 1},
		{triple{vec(0, 0), vec(most, most-1), vec(most-1, most-2)}, -1},
		{triple{vec(0, 0), vec(most-1, most-2), vec(most, most-1)}, 1},
		{triple{vec(most, -most), vec(-most, most), vec(1, -1)}, 0},
		{triple{vec(most, -most), vec(-most, most), vec(1, 0)}, -1},
		{triple{vec(most, -most), vec(-most, most), vec(0, -1)}, 1},
		// The components are saturated first.
		{triple{vec(low, low), vec(high, high), vec(5, 5)}, 0},
		{triple{vec(0, 0), vec(far, far/2), vec(2, 1)}, -1},
		{triple{vec(far, 7), vec(2*far, -7), vec(most, 0)}, 0},
		{triple{vec(high, 0), vec(far, 0), vec(0, 9)}, 0},
	}, triples())
}

// P3.4
func TestDistanceSquared(t *testing.T) {
	check(t, "DistanceSquared", func(p pair) int { return vec2.DistanceSquared(p.a, p.b) }, wantDistanceSquared, []row[pair, int]{
		{pair{vec(0, 0), vec(0, 0)}, 0},
		{pair{vec(1, 0), vec(4, 4)}, 25},
		{pair{vec(4, 4), vec(1, 0)}, 25},
		{pair{vec(0, 0), vec(1, 0)}, 1},
		{pair{vec(3*one, one), vec(-one, 4*one)}, 25 << 32},
		{pair{vec(123456, -654321), vec(-77777, 33333)}, 513362744005},
		{pair{vec(0, 0), vec(most, most)}, 576460750155939842},
		// The differences are not saturated.
		{pair{vec(-most, 0), vec(1, 0)}, 1 << 58},
		{pair{vec(most, most), vec(-most, most)}, 1152921500311879684},
		{pair{vec(-most, -most), vec(most, most)}, 2305843000623759368},
		// The components are.
		{pair{vec(low, high), vec(high, low)}, 2305843000623759368},
		{pair{vec(far, 0), vec(most, 0)}, 0},
		{pair{vec(most-1, 0), vec(high, 0)}, 1},
		{pair{vec(0, low), vec(0, 1-most)}, 1},
	}, pairs())
}

// P3.5
func TestOrientationChangesSign(t *testing.T) {
	for _, p := range triples() {
		sign := vec2.Orientation(p.a, p.b, p.c)
		swapped := [3]int{vec2.Orientation(p.b, p.a, p.c), vec2.Orientation(p.a, p.c, p.b), vec2.Orientation(p.c, p.b, p.a)}
		if swapped != [3]int{-sign, -sign, -sign} {
			t.Fatalf("Orientation%v = %d, with two arguments exchanged %v", p, sign, swapped)
		}
	}
}

// P3.5
func TestLengthIsAtMostSum(t *testing.T) {
	for _, v := range vectors() {
		limit := max(saturated(v.X), negated(v.X)) + max(saturated(v.Y), negated(v.Y))
		if got := vec2.Length(v); got < 0 || got > limit {
			t.Fatalf("Length(%v) = %d, more than %d", v, got, limit)
		}
	}
}
