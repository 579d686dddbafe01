package aabb_test

import (
	"math"
	"slices"
	"testing"

	"carom/aabb"
	"carom/api"
)

const (
	one  = api.One
	half = api.One / 2
	most = api.MaxValue
	far  = 1 << 40
	low  = math.MinInt
	high = math.MaxInt
)

// The arguments of one call.
type (
	pair   struct{ a, b api.AABB }
	placed struct {
		b api.AABB
		v api.Vec
	}
	expanded struct {
		b      api.AABB
		margin int
	}
	crossed struct {
		b        api.AABB
		from, to api.Vec
	}
)

// found is what FromPoints answers.
type found struct {
	b  api.AABB
	ok bool
}

// row is a row of a table: the arguments and the value that the chapter asks for.
type row[A any, R comparable] struct {
	args A
	want R
}

func vec(x, y int) api.Vec {
	return api.Vec{X: x, Y: y}
}

func box(minX, minY, maxX, maxY int) api.AABB {
	return api.AABB{Min: vec(minX, minY), Max: vec(maxX, maxY)}
}

// check compares call with the rows and, on the samples, with oracle, which is held against the rows as well.
func check[A any, R comparable](t *testing.T, name string, call, oracle func(A) R, rows []row[A, R], samples []A) {
	t.Helper()
	for _, r := range rows {
		if got := call(r.args); got != r.want {
			t.Errorf("%s%v = %v, want %v", name, r.args, got, r.want)
		}
		if expected := oracle(r.args); expected != r.want {
			t.Errorf("%s%v: the oracle says %v, the row %v", name, r.args, expected, r.want)
		}
	}
	for _, args := range samples {
		if got, want := call(args), oracle(args); got != want {
			t.Fatalf("%s%v = %v, want %v", name, args, got, want)
		}
	}
}

// P5.1
func TestValid(t *testing.T) {
	ascending := []int{low, low + 1, -far, -most - 1, -most, 1 - most, -1, 0, 1, most - 1, most, most + 1, far, high - 1, high}
	first, last := slices.Index(ascending, -most), slices.Index(ascending, most)
	valid := func(low, high int) bool {
		return first <= low && low <= high && high <= last
	}
	for i, minX := range ascending {
		for j, minY := range ascending {
			for k, maxX := range ascending {
				for l, maxY := range ascending {
					b := box(minX, minY, maxX, maxY)
					if got, want := aabb.Valid(b), valid(i, k) && valid(j, l); got != want {
						t.Errorf("Valid(%v) = %v, want %v", b, got, want)
					}
				}
			}
		}
	}
}

// P5.1
func TestFromPoints(t *testing.T) {
	call := func(points []api.Vec) found {
		b, ok := aabb.FromPoints(points...)
		return found{b, ok}
	}
	check(t, "FromPoints", call, wantFromPoints, []row[[]api.Vec, found]{
		{nil, found{}},
		{[]api.Vec{}, found{}},
		{[]api.Vec{vec(0, 0)}, found{box(0, 0, 0, 0), true}},
		{[]api.Vec{vec(3, -4)}, found{box(3, -4, 3, -4), true}},
		{[]api.Vec{vec(3, -4), vec(3, -4)}, found{box(3, -4, 3, -4), true}},
		{[]api.Vec{vec(2, 0), vec(0, 2)}, found{box(0, 0, 2, 2), true}},
		{[]api.Vec{vec(0, 2), vec(2, 0)}, found{box(0, 0, 2, 2), true}},
		{[]api.Vec{vec(-1, -2), vec(-3, -4)}, found{box(-3, -4, -1, -2), true}},
		{[]api.Vec{vec(5, 7), vec(5, 9)}, found{box(5, 7, 5, 9), true}},
		// Each side from a point of its own, in any place of the list.
		{[]api.Vec{vec(5, 1), vec(9, 5), vec(5, 9), vec(1, 5), vec(5, 5)}, found{box(1, 1, 9, 9), true}},
		{[]api.Vec{vec(5, 5), vec(1, 5), vec(5, 9), vec(9, 5), vec(5, 1)}, found{box(1, 1, 9, 9), true}},
		{[]api.Vec{vec(one, 2*one), vec(-3*one, half), vec(half, -one), vec(0, 0), vec(2*one, 0), vec(one, one)}, found{box(-3*one, -one, 2*one, 2*one), true}},
		{[]api.Vec{vec(most, -most), vec(-most, most)}, found{box(-most, -most, most, most), true}},
		// The points are saturated first.
		{[]api.Vec{vec(most+1, -most-1)}, found{box(most, -most, most, -most), true}},
		{[]api.Vec{vec(high, low)}, found{box(most, -most, most, -most), true}},
		{[]api.Vec{vec(low, high), vec(0, 0)}, found{box(-most, 0, 0, most), true}},
		{[]api.Vec{vec(0, 0), vec(far, -far), vec(high, low)}, found{box(0, -most, most, 0), true}},
		{[]api.Vec{vec(high, high), vec(low, low), vec(1, 1)}, found{box(-most, -most, most, most), true}},
	}, pointLists())
}

// P5.1: any number of points can be given one by one.
func TestFromPointsIsVariadic(t *testing.T) {
	if b, ok := aabb.FromPoints(); ok || b != (api.AABB{}) {
		t.Errorf("FromPoints() = %v, %v", b, ok)
	}
	if b, ok := aabb.FromPoints(vec(1, 2)); !ok || b != box(1, 2, 1, 2) {
		t.Errorf("FromPoints({1 2}) = %v, %v", b, ok)
	}
	if b, ok := aabb.FromPoints(vec(1, 2), vec(4, 0), vec(3, 3)); !ok || b != box(1, 0, 4, 3) {
		t.Errorf("FromPoints({1 2}, {4 0}, {3 3}) = %v, %v", b, ok)
	}
}

// P5.1: the points stay as they are, and so does the room behind them.
func TestFromPointsLeavesItsPoints(t *testing.T) {
	points := []api.Vec{vec(high, low), vec(3, -4), vec(-far, far), vec(7, 7)}
	before := slices.Clone(points)
	aabb.FromPoints(points[:3]...)
	if !slices.Equal(points, before) {
		t.Errorf("the points are %v now, they were %v", points, before)
	}
}

// P5.1
func TestUnion(t *testing.T) {
	square, none := box(0, 0, 2, 2), api.AABB{}
	check(t, "Union", func(p pair) api.AABB { return aabb.Union(p.a, p.b) }, wantUnion, []row[pair, api.AABB]{
		{pair{square, square}, square},
		{pair{square, box(1, 1, 5, 6)}, box(0, 0, 5, 6)},
		{pair{box(1, 1, 5, 6), square}, box(0, 0, 5, 6)},
		{pair{square, box(-3, 1, 1, 9)}, box(-3, 0, 2, 9)},
		{pair{square, box(2, 2, 3, 3)}, box(0, 0, 3, 3)},
		{pair{square, box(5, -9, 7, -8)}, box(0, -9, 7, 2)},
		{pair{box(-9, -9, 9, 9), square}, box(-9, -9, 9, 9)},
		{pair{square, box(-9, -9, 9, 9)}, box(-9, -9, 9, 9)},
		{pair{box(1, 1, 1, 1), box(3, 0, 3, 0)}, box(1, 0, 3, 1)},
		{pair{box(-most, -most, 1-most, 0), box(most, 0, most, most)}, box(-most, -most, most, most)},
		// The zero box is valid: it is the origin.
		{pair{none, box(1, 1, 2, 2)}, square},
		{pair{none, none}, none},
		// One is invalid.
		{pair{square, box(1, 0, 0, 9)}, square},
		{pair{box(1, 0, 0, 9), square}, square},
		{pair{box(-1, 5, 9, 4), box(3, 3, 4, 4)}, box(3, 3, 4, 4)},
		{pair{box(3, 3, 4, 4), box(-most-1, 0, 1, 1)}, box(3, 3, 4, 4)},
		{pair{box(3, 3, 4, 4), box(0, -most-1, 1, 1)}, box(3, 3, 4, 4)},
		{pair{box(0, 0, most+1, 1), box(3, 3, 4, 4)}, box(3, 3, 4, 4)},
		{pair{box(0, 0, 1, most+1), box(3, 3, 4, 4)}, box(3, 3, 4, 4)},
		{pair{box(low, low, high, high), box(most, -most, most, -most)}, box(most, -most, most, -most)},
		// Both are.
		{pair{box(1, 0, 0, 9), box(1, 0, 0, 9)}, none},
		{pair{box(2, 1, 1, 9), box(5, 9, 9, 5)}, none},
		{pair{box(low, low, high, high), box(high, high, low, low)}, none},
		{pair{box(1, 1, most+1, 2), box(-most-1, 1, 2, 2)}, none},
	}, pairs())
}

// overlapRows are the rows for Overlaps, each to be tried in both orders.
func overlapRows() []row[pair, bool] {
	square := box(0, 0, 2, 2)
	return []row[pair, bool]{
		{pair{square, square}, true},
		{pair{square, box(1, 1, 5, 6)}, true},
		{pair{square, box(1, -3, 1, 6)}, true},
		{pair{square, box(-9, -9, 9, 9)}, true},
		{pair{square, box(1, 1, 1, 1)}, true},
		{pair{box(-one, -one, one, one), box(half, half, 3*one, 3*one)}, true},
		// Common edges and corners.
		{pair{square, box(2, 0, 4, 2)}, true},
		{pair{square, box(0, 2, 2, 4)}, true},
		{pair{square, box(2, 1, 4, 9)}, true},
		{pair{square, box(2, 2, 4, 4)}, true},
		{pair{square, box(-1, 2, 0, 4)}, true},
		{pair{square, box(2, -1, 3, 0)}, true},
		{pair{square, box(2, 2, 2, 2)}, true},
		{pair{box(1, 1, 1, 1), box(1, 1, 1, 1)}, true},
		// Past each other by one.
		{pair{square, box(3, 0, 4, 2)}, false},
		{pair{square, box(-4, 0, -1, 2)}, false},
		{pair{square, box(0, 3, 2, 4)}, false},
		{pair{square, box(0, -4, 2, -1)}, false},
		{pair{square, box(3, 2, 4, 4)}, false},
		{pair{square, box(2, 3, 4, 4)}, false},
		{pair{square, box(3, 3, 4, 4)}, false},
		{pair{square, box(-4, -4, -1, -1)}, false},
		{pair{box(1, 1, 1, 1), box(1, 2, 1, 2)}, false},
		// At the ends of the saturated range.
		{pair{box(-most, -most, most, most), box(most, -most, most, -most)}, true},
		{pair{box(-most, -most, most, most), box(-most, -most, most, most)}, true},
		{pair{box(-most, 0, most-1, 0), box(most, 0, most, 0)}, false},
		{pair{box(0, 1-most, 0, most), box(0, -most, 0, -most)}, false},
		// Invalid boxes.
		{pair{square, box(1, 0, 0, 2)}, false},
		{pair{square, box(0, 1, 2, 0)}, false},
		{pair{square, box(-most-1, 0, 2, 2)}, false},
		{pair{square, box(0, -most-1, 2, 2)}, false},
		{pair{square, box(0, 0, most+1, 2)}, false},
		{pair{square, box(0, 0, 2, most+1)}, false},
		{pair{square, box(low, low, high, high)}, false},
		{pair{box(0, 0, most+1, 2), box(0, 0, most+1, 2)}, false},
	}
}

// P5.2
func TestOverlaps(t *testing.T) {
	rows := overlapRows()
	for _, r := range overlapRows() {
		rows = append(rows, row[pair, bool]{pair{r.args.b, r.args.a}, r.want})
	}
	check(t, "Overlaps", func(p pair) bool { return aabb.Overlaps(p.a, p.b) }, wantOverlaps, rows, pairs())
}

// P5.2
func TestContains(t *testing.T) {
	square := box(0, 0, 4, 4)
	check(t, "Contains", func(p pair) bool { return aabb.Contains(p.a, p.b) }, wantContains, []row[pair, bool]{
		{pair{square, square}, true},
		{pair{square, box(1, 1, 3, 3)}, true},
		{pair{box(1, 1, 3, 3), square}, false},
		{pair{square, box(2, 2, 2, 2)}, true},
		{pair{square, box(4, 4, 4, 4)}, true},
		{pair{square, box(0, 4, 0, 4)}, true},
		{pair{square, box(0, 0, 4, 1)}, true},
		{pair{box(1, 1, 1, 1), box(1, 1, 1, 1)}, true},
		{pair{box(1, 1, 1, 1), box(1, 1, 1, 2)}, false},
		// Out by one at each side.
		{pair{square, box(-1, 1, 3, 3)}, false},
		{pair{square, box(1, -1, 3, 3)}, false},
		{pair{square, box(1, 1, 5, 3)}, false},
		{pair{square, box(1, 1, 3, 5)}, false},
		// Overlapping, touching and apart.
		{pair{square, box(2, 2, 6, 6)}, false},
		{pair{square, box(4, 4, 6, 6)}, false},
		{pair{square, box(5, 5, 5, 5)}, false},
		{pair{square, box(9, 9, 10, 10)}, false},
		// At the ends of the saturated range.
		{pair{box(-most, -most, most, most), box(-most, -most, most, most)}, true},
		{pair{box(-most, -most, most, most), box(most, -most, most, -most)}, true},
		{pair{box(1-most, -most, most, most), box(-most, -most, most, most)}, false},
		{pair{box(-most, -most, most, most-1), box(0, 0, 0, most)}, false},
		// Invalid boxes.
		{pair{square, box(2, 1, 1, 3)}, false},
		{pair{square, box(1, 3, 2, 2)}, false},
		{pair{box(5, 0, 0, 4), box(5, 0, 0, 4)}, false},
		{pair{box(-most-1, 0, 4, 4), box(1, 1, 3, 3)}, false},
		{pair{box(0, -most-1, 4, 4), box(1, 1, 3, 3)}, false},
		{pair{box(0, 0, most+1, 4), box(1, 1, 3, 3)}, false},
		{pair{box(0, 0, 4, most+1), box(1, 1, 3, 3)}, false},
		{pair{box(low, low, high, high), square}, false},
		{pair{square, box(high, high, low, low)}, false},
	}, pairs())
}

// P5.2: on whole coordinates, boxes overlap if they have a whole point in common, and one contains another if it has all points of it.
func TestOverlapsAndContainsPointByPoint(t *testing.T) {
	points := smallPoints(0, 3)
	for _, a := range smallBoxes() {
		for _, b := range smallBoxes() {
			common, missing := false, false
			for _, v := range points {
				inA, inB := aabb.ContainsPoint(a, v), aabb.ContainsPoint(b, v)
				common = common || inA && inB
				missing = missing || inB && !inA
			}
			if got := aabb.Overlaps(a, b); got != common {
				t.Errorf("Overlaps(%v, %v) = %v", a, b, got)
			}
			if got := aabb.Contains(a, b); got == missing {
				t.Errorf("Contains(%v, %v) = %v", a, b, got)
			}
		}
	}
}

// P5.2
func TestContainsPoint(t *testing.T) {
	square := box(0, 0, 4, 4)
	check(t, "ContainsPoint", func(p placed) bool { return aabb.ContainsPoint(p.b, p.v) }, wantContainsPoint, []row[placed, bool]{
		{placed{square, vec(2, 3)}, true},
		{placed{square, vec(0, 0)}, true},
		{placed{square, vec(4, 4)}, true},
		{placed{square, vec(0, 4)}, true},
		{placed{square, vec(4, 0)}, true},
		{placed{square, vec(4, 1)}, true},
		{placed{square, vec(-1, 2)}, false},
		{placed{square, vec(2, -1)}, false},
		{placed{square, vec(5, 2)}, false},
		{placed{square, vec(2, 5)}, false},
		{placed{square, vec(5, 5)}, false},
		{placed{box(7, 7, 7, 7), vec(7, 7)}, true},
		{placed{box(7, 7, 7, 7), vec(7, 8)}, false},
		{placed{box(-one, half, 2*one, 3*one), vec(2*one, half)}, true},
		{placed{box(-one, half, 2*one, 3*one), vec(2*one, half-1)}, false},
		// The point is saturated first.
		{placed{box(0, -most, most, 0), vec(most, -most)}, true},
		{placed{box(0, -most, most, 0), vec(most+1, -most-1)}, true},
		{placed{box(most, -most, most, -most), vec(high, low)}, true},
		{placed{box(-most, most, -most, most), vec(-far, far)}, true},
		{placed{box(0, -most, most-1, 0), vec(high, 0)}, false},
		{placed{box(0, 1-most, most, 0), vec(0, low)}, false},
		// Invalid boxes.
		{placed{box(1, 0, 0, 4), vec(0, 0)}, false},
		{placed{box(1, 0, 0, 4), vec(1, 0)}, false},
		{placed{box(0, 4, 4, 3), vec(0, 4)}, false},
		{placed{box(-most-1, 0, 4, 4), vec(2, 2)}, false},
		{placed{box(0, -most-1, 4, 4), vec(2, 2)}, false},
		{placed{box(0, 0, most+1, 4), vec(2, 2)}, false},
		{placed{box(0, 0, 4, most+1), vec(2, 2)}, false},
		{placed{box(low, low, high, high), vec(0, 0)}, false},
	}, placedPoints())
}

// P5.2
func TestHalfPerimeter(t *testing.T) {
	check(t, "HalfPerimeter", aabb.HalfPerimeter, wantHalfPerimeter, []row[api.AABB, int]{
		{box(0, 0, 0, 0), 0},
		{box(5, -7, 5, -7), 0},
		{box(0, 0, 2, 2), 4},
		{box(-1, 2, 4, 9), 12},
		{box(-1, 2, 4, 2), 5},
		{box(-1, 2, -1, 4), 2},
		{box(-one, -2*one, half, 3*one), 425984},
		// The width, the height and their sum are saturated.
		{box(0, 0, most, 0), most},
		{box(0, 0, most-1, 1), most},
		{box(0, 0, most-1, 2), most},
		{box(0, -1, most-2, 0), most - 1},
		{box(-1, 0, most, 0), most},
		{box(0, -most, 0, most), most},
		{box(-most, -most, most, most), most},
		// Invalid boxes.
		{box(1, 0, 0, 4), 0},
		{box(0, 1, 4, 0), 0},
		{box(-most-1, 0, 4, 4), 0},
		{box(0, -most-1, 4, 4), 0},
		{box(0, 0, most+1, 4), 0},
		{box(0, 0, 4, most+1), 0},
		{box(most+1, 0, most+1, 4), 0},
		{box(low, low, high, high), 0},
		{box(high, high, low, low), 0},
	}, boxes())
}

// P5.3
func TestExpand(t *testing.T) {
	square, none := box(0, 0, 2, 2), api.AABB{}
	check(t, "Expand", func(e expanded) api.AABB { return aabb.Expand(e.b, e.margin) }, wantExpand, []row[expanded, api.AABB]{
		{expanded{square, 0}, square},
		{expanded{square, 1}, box(-1, -1, 3, 3)},
		{expanded{square, half}, box(-half, -half, half+2, half+2)},
		{expanded{box(-3, 5, 7, 9), 4}, box(-7, 1, 11, 13)},
		{expanded{box(-3, 5, 7, 9), -1}, box(-2, 6, 6, 8)},
		{expanded{none, one}, box(-one, -one, one, one)},
		// As far as anything is left.
		{expanded{square, -1}, box(1, 1, 1, 1)},
		{expanded{square, -2}, none},
		{expanded{box(-3, 5, 7, 9), -2}, box(-1, 7, 5, 7)},
		{expanded{box(-3, 5, 7, 9), -3}, none},
		{expanded{box(5, -3, 9, 7), -2}, box(7, -1, 7, 5)},
		{expanded{box(5, -3, 9, 7), -3}, none},
		{expanded{box(0, 0, 3, 3), -1}, box(1, 1, 2, 2)},
		{expanded{box(0, 0, 3, 3), -2}, none},
		{expanded{box(4, 4, 4, 4), 0}, box(4, 4, 4, 4)},
		{expanded{box(4, 4, 4, 4), -1}, none},
		// The sums are saturated.
		{expanded{box(1-most, 2-most, most-1, most-2), 1}, box(-most, 1-most, most, most-1)},
		{expanded{box(1-most, 2-most, most-1, most-2), 3}, box(-most, -most, most, most)},
		{expanded{box(-most, -most, most, most), 0}, box(-most, -most, most, most)},
		{expanded{box(-most, -most, most, most), one}, box(-most, -most, most, most)},
		{expanded{box(-most, -most, most, most), -1}, box(1-most, 1-most, most-1, most-1)},
		{expanded{box(most, most, most, most), 1}, box(most-1, most-1, most, most)},
		{expanded{box(most, most, most, most), -1}, none},
		{expanded{box(-most, -most, -most, -most), -1}, none},
		// The margin is saturated.
		{expanded{square, most}, box(-most, -most, most, most)},
		{expanded{square, most + 1}, box(-most, -most, most, most)},
		{expanded{box(5, 5, 6, 6), most}, box(5-most, 5-most, most, most)},
		{expanded{box(5, 5, 6, 6), far}, box(5-most, 5-most, most, most)},
		{expanded{box(5, -6, 6, -5), high}, box(5-most, -most, most, most-5)},
		{expanded{square, -most}, none},
		{expanded{square, low}, none},
		{expanded{box(-most, -most, most, most), 1 - most}, box(-1, -1, 1, 1)},
		{expanded{box(-most, -most, most, most), -most}, box(0, 0, 0, 0)},
		{expanded{box(-most, -most, most, most), -most - 1}, box(0, 0, 0, 0)},
		{expanded{box(-most, -most, most, most), low}, box(0, 0, 0, 0)},
		{expanded{box(1-most, -most, most, most), low}, none},
		// Invalid boxes, even those that the margin would mend.
		{expanded{box(1, 0, 0, 4), 0}, none},
		{expanded{box(1, 0, 0, 4), 1}, none},
		{expanded{box(0, 1, 4, 0), one}, none},
		{expanded{box(-most-1, 0, 4, 4), 0}, none},
		{expanded{box(0, -most-1, 4, 4), 1}, none},
		{expanded{box(0, 0, most+1, 4), -1}, none},
		{expanded{box(0, 0, 4, most+1), one}, none},
		{expanded{box(low, low, high, high), 0}, none},
		{expanded{box(high, high, low, low), high}, none},
	}, expandedBoxes())
}

// segmentRows are the rows for IntersectsSegment, each to be tried from both ends.
func segmentRows() []row[crossed, bool] {
	square := box(0, 0, 2, 2)
	return []row[crossed, bool]{
		// The example of the chapter.
		{crossed{square, vec(-1, 1), vec(1, 3)}, true},
		{crossed{square, vec(-1, 2), vec(1, 4)}, false},
		// Single points.
		{crossed{square, vec(1, 1), vec(1, 1)}, true},
		{crossed{square, vec(0, 0), vec(0, 0)}, true},
		{crossed{square, vec(2, 1), vec(2, 1)}, true},
		{crossed{square, vec(3, 1), vec(3, 1)}, false},
		{crossed{square, vec(1, -1), vec(1, -1)}, false},
		{crossed{square, vec(2, 3), vec(2, 3)}, false},
		{crossed{square, vec(-1, -1), vec(-1, -1)}, false},
		// Through the box and inside it.
		{crossed{square, vec(-1, 1), vec(3, 1)}, true},
		{crossed{square, vec(1, 5), vec(1, -5)}, true},
		{crossed{square, vec(-9, -9), vec(9, 9)}, true},
		{crossed{square, vec(0, 3), vec(3, 0)}, true},
		{crossed{square, vec(0, 2), vec(2, 0)}, true},
		{crossed{box(0, 0, 8, 8), vec(2, 3), vec(5, 4)}, true},
		{crossed{box(0, 0, 8, 8), vec(2, 3), vec(11, 4)}, true},
		{crossed{box(-one, -one, one, one), vec(-3*one, half), vec(half, 2*one)}, false},
		{crossed{box(-one, -one, one, one), vec(-3*one, half), vec(half, one)}, true},
		// In one corner only.
		{crossed{square, vec(-1, 1), vec(1, -1)}, true},
		{crossed{square, vec(1, -1), vec(3, 1)}, true},
		{crossed{square, vec(3, 1), vec(1, 3)}, true},
		{crossed{square, vec(-2, 3), vec(4, 0)}, true},
		// Past a corner, though the bounds of the segment overlap the box.
		{crossed{square, vec(-2, 1), vec(1, -1)}, false},
		{crossed{square, vec(1, -1), vec(4, 1)}, false},
		{crossed{square, vec(4, 1), vec(1, 3)}, false},
		{crossed{square, vec(-2, 1), vec(1, 3)}, false},
		// To an edge or a corner, and not quite.
		{crossed{square, vec(5, 1), vec(2, 1)}, true},
		{crossed{square, vec(5, 1), vec(3, 1)}, false},
		{crossed{square, vec(1, -4), vec(1, 0)}, true},
		{crossed{square, vec(1, -4), vec(1, -1)}, false},
		{crossed{square, vec(5, 5), vec(2, 2)}, true},
		{crossed{square, vec(5, 5), vec(3, 3)}, false},
		{crossed{square, vec(-7, 9), vec(0, 2)}, true},
		{crossed{square, vec(-7, 9), vec(-1, 3)}, false},
		{crossed{square, vec(1, 2), vec(-5, 7)}, true},
		// Along an edge.
		{crossed{square, vec(0, 2), vec(2, 2)}, true},
		{crossed{square, vec(-3, 2), vec(5, 2)}, true},
		{crossed{square, vec(-3, 2), vec(0, 2)}, true},
		{crossed{square, vec(-3, 2), vec(-1, 2)}, false},
		{crossed{square, vec(-3, 3), vec(5, 3)}, false},
		{crossed{square, vec(-1, -3), vec(-1, 5)}, false},
		{crossed{square, vec(2, 1), vec(2, 9)}, true},
		// Boxes without an inside.
		{crossed{box(1, 1, 1, 1), vec(0, 0), vec(2, 2)}, true},
		{crossed{box(1, 1, 1, 1), vec(0, 0), vec(2, 3)}, false},
		{crossed{box(1, 1, 1, 1), vec(1, 1), vec(1, 1)}, true},
		{crossed{box(1, 1, 1, 1), vec(1, 2), vec(1, 2)}, false},
		{crossed{box(1, 1, 1, 1), vec(2, 2), vec(5, 5)}, false},
		{crossed{box(0, 1, 4, 1), vec(2, 0), vec(2, 2)}, true},
		{crossed{box(0, 1, 4, 1), vec(2, 2), vec(2, 5)}, false},
		{crossed{box(0, 1, 4, 1), vec(4, 1), vec(7, 1)}, true},
		{crossed{box(0, 1, 4, 1), vec(5, 1), vec(7, 1)}, false},
		{crossed{box(0, 1, 4, 1), vec(0, 0), vec(9, 2)}, false},
		{crossed{box(1, 0, 1, 4), vec(0, 0), vec(3, 9)}, true},
	}
}

// farSegmentRows are more of them, with numbers at the ends of the saturated range and of int.
func farSegmentRows() []row[crossed, bool] {
	everywhere, corner := box(-most, -most, most, most), vec(-1, 2)
	// This line runs below the corner by less than 2^-30 units, which rounding would lose.
	from, to := vec(-most, most), vec(most-1, 3-most)
	// This one runs through the origin.
	left, right := vec(-most, most), vec(most, -most)
	return []row[crossed, bool]{
		{crossed{api.AABB{Min: corner, Max: vec(most, most)}, from, to}, false},
		{crossed{api.AABB{Min: corner, Max: corner}, from, to}, false},
		{crossed{api.AABB{Min: vec(-1, 1), Max: vec(most, most)}, from, to}, true},
		{crossed{api.AABB{Min: vec(-2, 2), Max: vec(most, most)}, from, to}, true},
		{crossed{api.AABB{Min: vec(-most, -most), Max: corner}, from, to}, true},
		{crossed{api.AABB{Min: corner, Max: vec(most, most)}, vec(-most, most), vec(most-1, 4-most)}, true},
		{crossed{box(0, 0, most, most), left, right}, true},
		{crossed{box(-most, -most, 0, 0), left, right}, true},
		{crossed{box(0, 1, most, most), left, right}, false},
		{crossed{box(-most, -most, -1, 0), left, right}, false},
		{crossed{box(0, 0, 0, 0), left, right}, true},
		{crossed{box(0, 1, 0, 1), left, right}, false},
		{crossed{everywhere, left, right}, true},
		{crossed{everywhere, vec(most, most), vec(most, most)}, true},
		{crossed{everywhere, vec(most, -most), vec(most, most)}, true},
		{crossed{box(-most, -most, most-1, most), vec(most, -most), vec(most, most)}, false},
		{crossed{box(most, most, most, most), vec(-most, -most), vec(most, most)}, true},
		{crossed{box(most, most-1, most, most-1), vec(-most, -most), vec(most, most)}, false},
		{crossed{box(most-1, most-1, most-1, most-1), vec(-most, -most), vec(most, most)}, true},
		{crossed{box(most-1, most-2, most, most-2), vec(-most, -most), vec(most, most)}, false},
		// The end points are saturated first, which turns the segment.
		{crossed{everywhere, vec(low, low), vec(high, high)}, true},
		{crossed{everywhere, vec(low, high), vec(low, high)}, true},
		{crossed{box(most, -most, most, -most), vec(high, low), vec(high, low)}, true},
		{crossed{box(most-1, -most, most-1, -most), vec(high, low), vec(high, low)}, false},
		{crossed{box(10, 10, 10, 10), vec(0, 0), vec(4*most, 2*most)}, true},
		{crossed{box(10, 5, 10, 5), vec(0, 0), vec(4*most, 2*most)}, false},
		{crossed{box(10, 5, 10, 5), vec(0, 0), vec(most-1, (most-1)/2)}, true},
		{crossed{box(most, 0, most, 0), vec(0, 0), vec(most+1, 0)}, true},
		{crossed{box(0, -most, 0, -most), vec(0, 0), vec(0, -most-1)}, true},
		{crossed{box(0, 0, 0, 0), vec(low, high), vec(high, low)}, true},
		{crossed{box(0, 1, 0, 1), vec(low, high), vec(high, low)}, false},
		// Invalid boxes.
		{crossed{box(1, 0, 0, 4), vec(-5, 2), vec(5, 2)}, false},
		{crossed{box(0, 1, 4, 0), vec(2, -5), vec(2, 5)}, false},
		{crossed{box(-most-1, 0, 4, 4), vec(1, 1), vec(2, 2)}, false},
		{crossed{box(0, -most-1, 4, 4), vec(1, 1), vec(2, 2)}, false},
		{crossed{box(0, 0, most+1, 4), vec(1, 1), vec(2, 2)}, false},
		{crossed{box(0, 0, 4, most+1), vec(1, 1), vec(2, 2)}, false},
		{crossed{box(low, low, high, high), vec(0, 0), vec(1, 1)}, false},
		{crossed{box(high, high, low, low), vec(low, low), vec(high, high)}, false},
	}
}

// P5.3
func TestIntersectsSegment(t *testing.T) {
	var rows []row[crossed, bool]
	for _, r := range append(segmentRows(), farSegmentRows()...) {
		rows = append(rows, r, row[crossed, bool]{crossed{r.args.b, r.args.to, r.args.from}, r.want})
	}
	check(t, "IntersectsSegment", func(s crossed) bool { return aabb.IntersectsSegment(s.b, s.from, s.to) }, wantIntersectsSegment, rows, segments())
}

// P5.3: the segment is the same from either end.
func TestIntersectsSegmentFromEitherEnd(t *testing.T) {
	for _, s := range segments() {
		if there, back := aabb.IntersectsSegment(s.b, s.from, s.to), aabb.IntersectsSegment(s.b, s.to, s.from); there != back {
			t.Fatalf("IntersectsSegment%v = %v, with exchanged end points %v", s, there, back)
		}
	}
}

// around returns b, other, and boxes that contain b if it is valid.
func around(b, other api.AABB) []api.AABB {
	return []api.AABB{b, other, aabb.Union(b, other), aabb.Expand(b, 1), aabb.Expand(b, one), aabb.Expand(b, high)}
}

// P5.4
func TestWhatOverlapsAPartOverlapsTheWhole(t *testing.T) {
	list, count := pairs(), 0
	for i, p := range list {
		b, c := p.a, p.b
		if !aabb.Overlaps(b, c) {
			continue
		}
		for _, a := range around(b, list[(i+1)%len(list)].a) {
			if !aabb.Contains(a, b) {
				continue
			}
			count++
			if !aabb.Overlaps(a, c) {
				t.Fatalf("%v overlaps %v, but %v, which contains it, does not", b, c, a)
			}
		}
	}
	if count < 100000 {
		t.Errorf("only %d boxes were tried", count)
	}
}

// P5.4
func TestWhatMeetsAPartMeetsTheWhole(t *testing.T) {
	list, count := segments(), 0
	for i, s := range list {
		if !aabb.IntersectsSegment(s.b, s.from, s.to) {
			continue
		}
		for _, a := range around(s.b, list[(i+1)%len(list)].b) {
			if !aabb.Contains(a, s.b) {
				continue
			}
			count++
			if !aabb.IntersectsSegment(a, s.from, s.to) {
				t.Fatalf("%v meets the segment from %v to %v, but %v, which contains it, does not", s.b, s.from, s.to, a)
			}
		}
	}
	if count < 100000 {
		t.Errorf("only %d boxes were tried", count)
	}
}

// P5.2, P5.3, P5.4: a segment with an end in a box meets it, and one that meets it has bounds that overlap it.
func TestSegmentsAgreeWithPointsAndBoxes(t *testing.T) {
	for _, s := range segments() {
		meets := aabb.IntersectsSegment(s.b, s.from, s.to)
		if (aabb.ContainsPoint(s.b, s.from) || aabb.ContainsPoint(s.b, s.to)) && !meets {
			t.Fatalf("the segment from %v to %v has an end in %v, but does not meet it", s.from, s.to, s.b)
		}
		if bounds, ok := aabb.FromPoints(s.from, s.to); !ok || meets && !aabb.Overlaps(s.b, bounds) {
			t.Fatalf("the segment from %v to %v meets %v, but its bounds %v do not", s.from, s.to, s.b, bounds)
		}
	}
}
