package segment_test

import (
	"math"
	"testing"

	"carom/api"
	"carom/segment"
)

const (
	one   = api.One
	half  = api.One / 2
	most  = api.MaxValue
	limit = api.WorldLimit
	far   = 1 << 40
	low   = math.MinInt
	high  = math.MaxInt
)

// The arguments of one call.
type (
	near struct{ a, b, p api.Vec }
	quad struct{ a, b, c, d api.Vec }
)

// found is what ClosestPoint answers.
type found struct {
	point api.Vec
	t     int
}

// couple is what ClosestPoints answers.
type couple struct{ first, second api.Vec }

// row is a row of a table: the arguments and the value that the chapter asks for.
type row[A any, R comparable] struct {
	args A
	want R
}

func vec(x, y int) api.Vec {
	return api.Vec{X: x, Y: y}
}

// units is the point at x and y in whole units.
func units(x, y int) api.Vec {
	return vec(x*one, y*one)
}

func closestPoint(n near) found {
	point, t := segment.ClosestPoint(n.a, n.b, n.p)
	return found{point, t}
}

func intersects(q quad) bool {
	return segment.Intersects(q.a, q.b, q.c, q.d)
}

func closestPoints(q quad) couple {
	first, second := segment.ClosestPoints(q.a, q.b, q.c, q.d)
	return couple{first, second}
}

func distance(q quad) int {
	return segment.Distance(q.a, q.b, q.c, q.d)
}

// check compares call with the rows and, on the samples, with oracle, which is held against the rows as well.
func check[A any, R comparable](t *testing.T, name string, call, oracle func(A) R, rows []row[A, R], samples []A) {
	t.Helper()
	for _, r := range rows {
		if got := call(r.args); got != r.want {
			t.Errorf("%s%v = %v, want %v", name, r.args, got, r.want)
		}
		if expected := oracle(r.args); expected != r.want {
			t.Errorf("%s%v: the oracle says %v, the row %v", name, r.args, expected, r.want)
		}
	}
	for _, args := range samples {
		if got, want := call(args), oracle(args); got != want {
			t.Fatalf("%s%v = %v, want %v", name, args, got, want)
		}
	}
}

// P10.1
func TestClosestPoint(t *testing.T) {
	o, u, s := vec(0, 0), units(4, 0), units(3, 4)
	check(t, "ClosestPoint", closestPoint, wantClosestPoint, []row[near, found]{
		// The chapter's example.
		{near{o, u, units(1, 2)}, found{units(1, 0), one / 4}},
		// Before the segment, beside it and behind it.
		{near{o, u, units(-1, 0)}, found{o, 0}},
		{near{o, u, units(-3, 7)}, found{o, 0}},
		{near{o, u, units(0, 5)}, found{o, 0}},
		{near{o, u, units(2, -9)}, found{units(2, 0), half}},
		{near{o, u, units(3, 1)}, found{units(3, 0), 3 * one / 4}},
		{near{o, u, units(4, -5)}, found{u, one}},
		{near{o, u, units(5, 0)}, found{u, one}},
		{near{o, u, units(9, 1)}, found{u, one}},
		// On the segment and at its ends.
		{near{o, u, o}, found{o, 0}},
		{near{o, u, units(1, 0)}, found{units(1, 0), one / 4}},
		{near{o, u, u}, found{u, one}},
		// From the other end.
		{near{u, o, units(1, 2)}, found{units(1, 0), 3 * one / 4}},
		{near{u, o, units(-1, 2)}, found{o, one}},
		{near{u, o, units(5, 2)}, found{u, 0}},
		// Slanted: the parameters are 9/25, 12/25, 25/25 and 0.
		{near{o, s, units(3, 0)}, found{vec(70779, 94372), 23593}},
		{near{o, s, units(0, 3)}, found{vec(94371, 125828), 31457}},
		{near{o, s, units(7, 1)}, found{s, one}},
		{near{o, s, units(-4, 3)}, found{o, 0}},
		{near{units(1, 1), units(4, 5), units(4, 1)}, found{vec(136315, 159908), 23593}},
		{near{units(1, -1), units(-1, 1), units(1, 1)}, found{o, half}},
		{near{units(0, 2), units(0, -2), units(6, 1)}, found{units(0, 1), one / 4}},
		// The parameter is rounded, with halves up, and so are 0 and One.
		{near{o, u, vec(1, 3)}, found{o, 0}},
		{near{o, u, vec(2, 3)}, found{vec(4, 0), 1}},
		{near{o, u, vec(5, 3)}, found{vec(4, 0), 1}},
		{near{o, u, vec(6, 3)}, found{vec(8, 0), 2}},
		{near{o, u, vec(4*one-3, 3)}, found{vec(4*one-4, 0), one - 1}},
		{near{o, u, vec(4*one-2, 3)}, found{u, one}},
		{near{o, u, vec(4*one-1, 3)}, found{u, one}},
		{near{o, vec(3, 0), vec(1, 0)}, found{vec(1, 0), 21845}},
		{near{o, vec(3, 0), vec(2, 0)}, found{vec(2, 0), 43691}},
		{near{o, vec(3, 3), vec(3, 0)}, found{vec(2, 2), half}},
		// The end points coincide.
		{near{o, o, o}, found{o, 0}},
		{near{o, o, u}, found{o, 0}},
		{near{s, s, o}, found{s, 0}},
		{near{s, s, vec(high, low)}, found{s, 0}},
		// The largest saturated coordinates: the difference of the end points saturates in Lerp, but b is b.
		{near{vec(-most, 0), vec(most, 0), vec(most, 5)}, found{vec(most, 0), one}},
		{near{vec(-most, 0), vec(most, 0), vec(-most, 5)}, found{vec(-most, 0), 0}},
		{near{vec(-most, 0), vec(most, 0), vec(0, 5)}, found{vec(-268435455, 0), half}},
		{near{vec(-most, -most), vec(most, most), vec(most, most)}, found{vec(most, most), one}},
		{near{vec(-most, most), vec(most, -most), vec(0, 0)}, found{vec(-268435455, 268435455), half}},
		{near{vec(-most, -most), vec(most, most), vec(most, -most)}, found{vec(-268435455, -268435455), half}},
		{near{vec(0, 0), vec(most, most), vec(most, 0)}, found{vec(1<<28, 1<<28), half}},
		{near{vec(-limit, 0), vec(limit, 0), vec(0, limit)}, found{vec(0, 0), half}},
		// All points are saturated first, a and b as well where they are answered.
		{near{o, u, vec(far, far)}, found{u, one}},
		{near{o, u, vec(low, high)}, found{o, 0}},
		{near{o, vec(far, 0), vec(1<<28, 0)}, found{vec(1<<28, 0), half}},
		{near{o, vec(far, 0), vec(1<<39, 0)}, found{vec(most, 0), one}},
		{near{vec(low, 0), vec(0, 0), vec(-far, 7)}, found{vec(-most, 0), 0}},
		{near{vec(low, high), vec(high, low), vec(high, low)}, found{vec(most, -most), one}},
		{near{vec(low, high), vec(high, low), vec(low, high)}, found{vec(-most, most), 0}},
		{near{vec(far, far), vec(high, high), o}, found{vec(most, most), 0}},
	}, points())
}

// meeting are segments, with whether they have a common point.
func meeting() []row[quad, bool] {
	o, u := vec(0, 0), units(4, 0)
	return []row[quad, bool]{
		// They cross, at a right angle, aslant and by next to nothing.
		{quad{o, u, units(2, -1), units(2, 1)}, true},
		{quad{o, units(4, 4), units(0, 4), units(4, 0)}, true},
		{quad{o, units(5, 1), units(1, 1), units(2, -7)}, true},
		{quad{o, vec(1, 1), vec(0, 1), vec(1, 0)}, true},
		{quad{o, vec(5, 3), vec(2, 1), vec(3, 2)}, true},
		{quad{vec(-most, -most), vec(most, most), vec(-most, most), vec(most, -most)}, true},
		{quad{vec(-most, -most), vec(most, most-1), vec(0, 0), vec(0, -1)}, true},
		// The lines cross, but beside one segment or beside both.
		{quad{o, u, units(5, -1), units(5, 1)}, false},
		{quad{o, u, units(2, 1), units(2, 3)}, false},
		{quad{o, u, units(2, -3), vec(2*one, -1)}, false},
		{quad{o, u, units(7, 2), units(5, 1)}, false},
		{quad{o, units(4, 4), units(3, 0), units(4, 3)}, false},
		{quad{vec(-most, -most), vec(most, most-1), vec(0, 0), vec(0, 1)}, false},
		{quad{o, vec(5, 3), vec(2, 1), vec(4, 2)}, false},
		// They touch at an end, at both ends, or inside one of them, or they just do not.
		{quad{o, u, u, units(7, 4)}, true},
		{quad{o, u, vec(4*one+1, 0), units(7, 4)}, false},
		{quad{o, u, units(-1, 3), o}, true},
		{quad{o, u, units(2, 0), units(3, 5)}, true},
		{quad{o, u, vec(2*one, 1), units(3, 5)}, false},
		{quad{o, u, units(0, -1), units(0, 1)}, true},
		{quad{o, u, units(4, -1), units(4, 1)}, true},
		{quad{o, u, vec(4*one+1, -one), vec(4*one+1, one)}, false},
		// They lie on one line and overlap, contain each other, touch or lie apart.
		{quad{o, u, units(2, 0), units(6, 0)}, true},
		{quad{o, u, units(1, 0), units(3, 0)}, true},
		{quad{o, u, o, u}, true},
		{quad{o, u, u, o}, true},
		{quad{o, u, u, units(9, 0)}, true},
		{quad{o, u, vec(4*one+1, 0), units(9, 0)}, false},
		{quad{o, u, units(-3, 0), vec(-1, 0)}, false},
		{quad{o, units(2, 2), units(1, 1), units(3, 3)}, true},
		{quad{o, units(2, 2), units(2, 2), units(3, 3)}, true},
		{quad{o, units(2, 2), vec(2*one+1, 2*one+1), units(3, 3)}, false},
		{quad{units(0, 2), units(2, 0), units(1, 1), units(3, -1)}, true},
		{quad{units(0, 2), units(2, 0), units(3, -1), units(4, -2)}, false},
		{quad{o, units(0, 4), units(0, 3), units(0, 5)}, true},
		{quad{o, units(0, 4), units(0, 5), units(0, 6)}, false},
		{quad{o, vec(1, 0), vec(2, 0), vec(3, 0)}, false},
		// They are parallel.
		{quad{o, u, vec(0, 1), vec(4*one, 1)}, false},
		{quad{o, u, units(1, -2), units(3, -2)}, false},
		{quad{o, units(2, 2), units(0, 1), units(2, 3)}, false},
		{quad{vec(-most, -most), vec(most-1, most-1), vec(1-most, -most), vec(most, most-1)}, false},
		// One is a single point.
		{quad{o, u, units(2, 0), units(2, 0)}, true},
		{quad{o, u, o, o}, true},
		{quad{o, u, u, u}, true},
		{quad{o, u, vec(4*one+1, 0), vec(4*one+1, 0)}, false},
		{quad{o, u, vec(-1, 0), vec(-1, 0)}, false},
		{quad{o, u, vec(2*one, 1), vec(2*one, 1)}, false},
		{quad{o, units(4, 4), units(3, 3), units(3, 3)}, true},
		{quad{o, units(4, 4), units(3, 2), units(3, 2)}, false},
		{quad{o, units(4, 4), units(5, 5), units(5, 5)}, false},
		// Both are single points.
		{quad{o, o, o, o}, true},
		{quad{u, u, u, u}, true},
		{quad{o, o, vec(1, 0), vec(1, 0)}, false},
		{quad{o, o, vec(0, -1), vec(0, -1)}, false},
		{quad{o, o, units(3, 4), units(3, 4)}, false},
		// All points are saturated first.
		{quad{vec(far, 0), vec(far, one), vec(high, half), vec(0, half)}, true},
		{quad{vec(far, far), vec(far, far), vec(high, most), vec(high, most)}, true},
		{quad{vec(most, 0), vec(most+9, 0), vec(most+1, -1), vec(most+2, 1)}, true},
		{quad{vec(low, low), vec(high, high), vec(low, high), vec(high, low)}, true},
		{quad{vec(low, 0), vec(high, 0), vec(low, 1), vec(high, 1)}, false},
		{quad{vec(0, 0), vec(far, 0), vec(far, 1), vec(2*far, far)}, false},
	}
}

// everyWay returns the rows for the same segments with their ends and with themselves exchanged.
func everyWay[R comparable](rows []row[quad, R]) []row[quad, R] {
	var list []row[quad, R]
	for _, r := range rows {
		for _, q := range turned(r.args) {
			list = append(list, row[quad, R]{q, r.want}, row[quad, R]{exchanged(q), r.want})
		}
	}
	return list
}

// P10.2
func TestIntersects(t *testing.T) {
	check(t, "Intersects", intersects, wantIntersects, everyWay(meeting()), quads())
}

// P10.2: segments are the same from either end.
func TestIntersectsFromEitherEnd(t *testing.T) {
	for _, q := range quads() {
		want := intersects(q)
		for _, other := range turned(q) {
			if intersects(other) != want || intersects(exchanged(other)) != want {
				t.Fatalf("Intersects%v = %v, but not with exchanged points as in %v", q, want, other)
			}
		}
	}
}

// P10.3: segments that have a common point.
func TestClosestPointsOfMeetingSegments(t *testing.T) {
	o, u := vec(0, 0), units(4, 0)
	twice := func(x, y int) couple {
		return couple{vec(x, y), vec(x, y)}
	}
	check(t, "ClosestPoints", closestPoints, wantClosestPoints, []row[quad, couple]{
		// They cross.
		{quad{o, u, units(2, -1), units(2, 1)}, twice(2*one, 0)},
		{quad{o, u, units(1, -3), units(1, 1)}, twice(one, 0)},
		{quad{units(2, -1), units(2, 3), o, u}, twice(2*one, 0)},
		{quad{o, units(4, 4), units(0, 4), u}, twice(2*one, 2*one)},
		{quad{o, vec(1, 1), vec(0, 1), vec(1, 0)}, twice(1, 1)},
		// The point is rounded along ab: 21845 is a third, 43691 two thirds.
		{quad{o, units(3, 0), units(1, -1), units(1, 1)}, twice(65535, 0)},
		{quad{units(3, 0), o, units(1, -1), units(1, 1)}, twice(65535, 0)},
		{quad{units(1, -1), units(1, 1), o, units(3, 0)}, twice(one, 0)},
		{quad{o, units(3, 0), units(2, -1), units(2, 1)}, twice(131073, 0)},
		// They touch: at a, at b, inside ab.
		{quad{o, u, units(0, -1), units(0, 1)}, twice(0, 0)},
		{quad{o, u, units(4, -1), units(4, 1)}, twice(4*one, 0)},
		{quad{o, u, u, units(7, 4)}, twice(4*one, 0)},
		{quad{o, u, units(3, 0), units(7, 4)}, twice(3*one, 0)},
		// They lie on one line: a, wherever they overlap.
		{quad{o, u, units(2, 0), units(6, 0)}, twice(0, 0)},
		{quad{u, o, units(2, 0), units(6, 0)}, twice(4*one, 0)},
		{quad{units(2, 0), units(6, 0), o, u}, twice(2*one, 0)},
		{quad{o, u, u, units(9, 0)}, twice(0, 0)},
		{quad{o, u, u, o}, twice(0, 0)},
		{quad{units(1, 1), units(3, 3), units(2, 2), units(8, 8)}, twice(one, one)},
		// One or both are single points.
		{quad{o, u, units(3, 0), units(3, 0)}, twice(0, 0)},
		{quad{units(3, 0), units(3, 0), o, u}, twice(3*one, 0)},
		{quad{u, u, u, u}, twice(4*one, 0)},
		// Lerp saturates the difference of the end points, so that it does not reach b.
		{quad{vec(-most, 0), vec(most, 0), vec(most, -5), vec(most, 5)}, twice(0, 0)},
		{quad{vec(-most, 0), vec(most, 0), vec(0, -5), vec(0, 5)}, twice(-268435455, 0)},
		{quad{vec(-limit, -limit), vec(limit, limit), vec(-limit, limit), vec(limit, -limit)}, twice(0, 0)},
		// All points are saturated first.
		{quad{vec(far, 0), vec(far, one), vec(high, half), vec(0, half)}, twice(most, half)},
		{quad{vec(high, low), vec(high, low), vec(far, -far), vec(far, -far)}, twice(most, -most)},
	}, nil)
}

// P10.3: segments that have no common point.
func TestClosestPointsOfSegmentsApart(t *testing.T) {
	o, u := vec(0, 0), units(4, 0)
	check(t, "ClosestPoints", closestPoints, wantClosestPoints, []row[quad, couple]{
		// Each of the four candidates alone is the closest: a, b, c and d.
		{quad{units(1, 1), units(1, 5), units(-4, 0), u}, couple{units(1, 1), units(1, 0)}},
		{quad{units(1, 5), units(1, 1), units(-4, 0), u}, couple{units(1, 1), units(1, 0)}},
		{quad{units(-4, 0), u, units(1, 1), units(1, 5)}, couple{units(1, 0), units(1, 1)}},
		{quad{units(-4, 0), u, units(1, 5), units(1, 1)}, couple{units(1, 0), units(1, 1)}},
		// Two end points are the closest.
		{quad{o, u, units(7, 4), units(9, 9)}, couple{u, units(7, 4)}},
		{quad{o, u, units(9, 9), units(7, 4)}, couple{u, units(7, 4)}},
		{quad{u, o, units(6, 0), units(9, 0)}, couple{u, units(6, 0)}},
		// All four candidates are equally close.
		{quad{o, u, units(0, 3), units(4, 3)}, couple{o, units(0, 3)}},
		{quad{u, o, units(0, 3), units(4, 3)}, couple{u, units(4, 3)}},
		// The first and the second are.
		{quad{o, u, units(-2, 3), units(6, 3)}, couple{o, units(0, 3)}},
		{quad{u, o, units(-2, 3), units(6, 3)}, couple{u, units(4, 3)}},
		// The third and the fourth are.
		{quad{o, units(8, 0), units(2, 3), units(6, 3)}, couple{units(2, 0), units(2, 3)}},
		{quad{o, units(8, 0), units(6, 3), units(2, 3)}, couple{units(6, 0), units(6, 3)}},
		// The first and the third are, or the first and the fourth.
		{quad{units(1, 0), units(9, 0), units(3, 3), units(-1, 3)}, couple{units(1, 0), units(1, 3)}},
		{quad{units(1, 0), units(9, 0), units(-1, 3), units(3, 3)}, couple{units(1, 0), units(1, 3)}},
		// The second and the third are, or the second and the fourth.
		{quad{o, u, units(2, 3), units(10, 3)}, couple{u, units(4, 3)}},
		{quad{o, u, units(10, 3), units(2, 3)}, couple{u, units(4, 3)}},
		// The candidates are compared as they are rounded: c and d both lie 1 beside ab, but the point for both of them is (4, 0).
		{quad{o, u, vec(2, 1), vec(4, 1)}, couple{vec(4, 0), vec(4, 1)}},
		// One or both are single points.
		{quad{o, u, units(3, 2), units(3, 2)}, couple{units(3, 0), units(3, 2)}},
		{quad{units(3, 2), units(3, 2), o, u}, couple{units(3, 2), units(3, 0)}},
		{quad{o, o, units(3, 4), units(3, 4)}, couple{o, units(3, 4)}},
		// The squares of the distances at the ends of the range differ by little.
		{quad{vec(-most, -most), vec(-most, -most), vec(most, most), vec(most-1, most)}, couple{vec(-most, -most), vec(most-1, most)}},
		{quad{vec(-most, 0), vec(-most, 1), vec(most, 5), vec(most, 1)}, couple{vec(-most, 1), vec(most, 1)}},
		// All points are saturated first.
		{quad{vec(low, 0), vec(low, one), vec(high, 0), vec(high, one)}, couple{vec(-most, 0), vec(most, 0)}},
		{quad{o, u, vec(far, one), vec(2*far, 3*one)}, couple{u, vec(most, one)}},
	}, quads())
}

// P10.3
func TestDistance(t *testing.T) {
	o, u := vec(0, 0), units(4, 0)
	rows := []row[quad, int]{
		{quad{o, u, units(7, 4), units(7, 4)}, 5 * one},
		{quad{o, u, units(7, 4), units(9, 9)}, 5 * one},
		{quad{o, u, units(1, 2), units(3, 7)}, 2 * one},
		{quad{o, u, units(2, 3), units(10, 3)}, 3 * one},
		{quad{o, u, units(-2, 3), units(6, 3)}, 3 * one},
		{quad{o, u, units(6, 0), units(9, 0)}, 2 * one},
		{quad{o, u, vec(4*one+1, 0), units(9, 0)}, 1},
		{quad{o, u, vec(2*one, 1), units(3, 5)}, 1},
		{quad{o, o, units(-3, -4), units(-3, -4)}, 5 * one},
		// The root is rounded down: sqrt(2), sqrt(8), and one unit aslant.
		{quad{o, o, vec(1, 1), vec(1, 1)}, 1},
		{quad{o, o, vec(2, 2), vec(2, 2)}, 2},
		{quad{o, o, units(1, 1), units(1, 1)}, 92681},
		{quad{o, u, units(5, 1), units(6, 3)}, 92681},
		// Aslant: beside (3, 4), which is half of the way.
		{quad{o, units(6, 8), units(7, 1), units(7, 1)}, 5 * one},
		// Distances are saturated.
		{quad{vec(-most, 0), vec(-most, 1), vec(most, 0), vec(most, 1)}, most},
		{quad{vec(0, 0), vec(0, 1), vec(most, 0), vec(most, 1)}, most},
		{quad{vec(1, 0), vec(1, 1), vec(most, 0), vec(most, 1)}, most - 1},
		{quad{vec(0, 0), vec(0, 0), vec(most, most), vec(most, most)}, most},
		{quad{vec(-most, -most), vec(-most, -most), vec(most, most), vec(most, most)}, most},
		{quad{vec(low, low), vec(low, low), vec(high, high), vec(high, high)}, most},
		{quad{vec(0, 0), vec(0, one), vec(far, 0), vec(far, one)}, most},
		{quad{vec(7, 0), vec(7, one), vec(far, 0), vec(far, one)}, most - 7},
		{quad{vec(0, most), vec(0, high), vec(9, most), vec(9, far)}, 9},
		{quad{vec(-limit, 0), vec(limit, 0), vec(0, limit), vec(0, 1)}, 1},
	}
	for _, r := range meeting() {
		if r.want {
			rows = append(rows, row[quad, int]{r.args, 0})
		}
	}
	check(t, "Distance", distance, wantDistance, everyWay(rows), quads())
}

// P10.3: the closest point is rounded from the end at which its segment begins, so that exchanging end points can change the distance by its rounding.
func TestDistanceRoundsFromTheFirstEnd(t *testing.T) {
	o, a, b := vec(0, 0), vec(2, 1), vec(-1, 2)
	check(t, "ClosestPoints", closestPoints, wantClosestPoints, []row[quad, couple]{
		{quad{a, b, o, o}, couple{vec(0, 2), o}},
		{quad{b, a, o, o}, couple{vec(1, 1), o}},
		{quad{o, o, a, b}, couple{o, vec(0, 2)}},
		{quad{o, o, b, a}, couple{o, vec(1, 1)}},
	}, nil)
	check(t, "Distance", distance, wantDistance, []row[quad, int]{
		{quad{a, b, o, o}, 2},
		{quad{b, a, o, o}, 1},
		{quad{o, o, a, b}, 2},
		{quad{o, o, b, a}, 1},
	}, nil)
}

// P10.3: a distance is 0 for segments with a common point, and that of the closest points.
func TestDistanceIsThatOfTheClosestPoints(t *testing.T) {
	for _, q := range quads() {
		closest, got := closestPoints(q), distance(q)
		if intersects(q) && (got != 0 || closest.first != closest.second) {
			t.Fatalf("%v have a common point, but the closest points %v and the distance %d", q, closest, got)
		}
		want := math.Sqrt(float64(square(closest.first, closest.second).Int64()))
		if low, high := want-1-1e-6, want+1e-6; got < most && (float64(got) < low || float64(got) > high) {
			t.Fatalf("Distance%v = %d, but the closest points %v have the distance %f", q, got, closest, want)
		}
	}
}

// P10.4
func TestDistanceIsSymmetric(t *testing.T) {
	for _, q := range quads() {
		for _, other := range turned(q) {
			if there, back := distance(other), distance(exchanged(other)); there != back {
				t.Fatalf("Distance%v = %d, with exchanged segments %d", other, there, back)
			}
		}
	}
}

// P10.4
func TestEndPointsAreNotCloserThanTheSegments(t *testing.T) {
	list, count := worldQuads(), 0
	for _, q := range list {
		got := distance(q) - 4
		if got <= 0 {
			continue
		}
		count++
		for _, ends := range [...]couple{{q.a, q.c}, {q.a, q.d}, {q.b, q.c}, {q.b, q.d}} {
			if square(ends.first, ends.second).Cmp(bigInt(got*got)) < 0 {
				t.Fatalf("Distance%v = %d, but the end points %v are closer by more than 4", q, got+4, ends)
			}
		}
	}
	if count < 100000 {
		t.Errorf("only %d pairs of segments were tried", count)
	}
}

// P10.3, P10.4: within the world, a distance differs from the true one by no more than the rounding of the parameter, whichever end points are exchanged.
func TestDistanceIsNearTheTrueOne(t *testing.T) {
	for _, q := range worldQuads() {
		length := math.Sqrt(float64(max(square(q.a, q.b).Int64(), square(q.c, q.d).Int64())))
		// Half of a unit of the parameter is 1/131072 of the length.
		least, greatest := trueDistance(q)-3, trueDistance(q)+length/131072+3
		for _, other := range turned(q) {
			if got := float64(distance(other)); got < min(least, most) || got > greatest {
				t.Fatalf("Distance%v = %f, want %f to %f", other, got, least, greatest)
			}
		}
	}
}
