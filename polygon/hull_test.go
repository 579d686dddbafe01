package polygon_test

import (
	"slices"
	"testing"

	"carom/api"
	"carom/polygon"
)

// hullRow is a list of points and the corners of its hull.
type hullRow struct{ points, want []api.Vec }

func checkHulls(t *testing.T, rows []hullRow) {
	t.Helper()
	for _, r := range rows {
		if got := polygon.ConvexHull(r.points); !slices.Equal(got, r.want) {
			t.Errorf("ConvexHull(%v) = %v, want %v", r.points, got, r.want)
		}
		if expected := wantConvexHull(r.points); !slices.Equal(expected, r.want) {
			t.Errorf("ConvexHull(%v): the oracle says %v, the row %v", r.points, expected, r.want)
		}
	}
}

// inEveryOrder calls visit with each order of the points.
func inEveryOrder(points []api.Vec, visit func([]api.Vec)) {
	list := slices.Clone(points)
	var place func(int)
	place = func(i int) {
		if i == len(list) {
			visit(slices.Clone(list))
			return
		}
		for j := i; j < len(list); j++ {
			list[i], list[j] = list[j], list[i]
			place(i + 1)
			list[i], list[j] = list[j], list[i]
		}
	}
	place(0)
}

// P11.3
func TestConvexHull(t *testing.T) {
	s, o := square(), octagon()
	rows := []hullRow{
		// One point, and several that coincide.
		{path(0, 0), path(0, 0)},
		{path(-7, 9), path(-7, 9)},
		{path(5, 5, 5, 5), path(5, 5)},
		{path(-1, 2, -1, 2, -1, 2, -1, 2), path(-1, 2)},
		{make([]api.Vec, 64), path(0, 0)},
		// Two points: the one with the smaller X first, then the one with the smaller Y.
		{path(1, 2, 3, 4), path(1, 2, 3, 4)},
		{path(3, 4, 1, 2), path(1, 2, 3, 4)},
		{path(3, 2, 1, 4), path(1, 4, 3, 2)},
		{path(1, 9, 1, -9), path(1, -9, 1, 9)},
		{path(4, 0, -4, 0, 4, 0, -4, 0), path(-4, 0, 4, 0)},
		// On one line: level, upright, rising and falling.
		{path(2, 7, 5, 7, 1, 7, 3, 7, 4, 7), path(1, 7, 5, 7)},
		{path(7, 2, 7, 5, 7, 1, 7, 3, 7, 4), path(7, 1, 7, 5)},
		{path(7, 5, 7, 1, 7, 5, 7, 1, 7, 3), path(7, 1, 7, 5)},
		{path(2, 2, 1, 1, 3, 3, 1, 1), path(1, 1, 3, 3)},
		{path(0, 0, 6, -4, 3, -2, -3, 2), path(-3, 2, 6, -4)},
		{path(0, 0, 1, 3, 2, 6), path(0, 0, 2, 6)},
		// One unit beside the line.
		{path(0, 0, 5, 3, 3, 2), path(0, 0, 5, 3, 3, 2)},
		{path(0, 0, 5, 3, 2, 1), path(0, 0, 2, 1, 5, 3)},
		{path(7, 1, 7, 2, 8, 3, 7, 5), path(7, 1, 8, 3, 7, 5)},
		{path(7, 1, 7, 2, 6, 3, 7, 5), path(6, 3, 7, 1, 7, 5)},
		// Three corners, and the hull of a hull.
		{path(0, 1, 0, 0, 1, 0), path(0, 0, 1, 0, 0, 1)},
		{path(0, 5, 3, 0, 3, 9), path(0, 5, 3, 0, 3, 9)},
		{s, s},
		{reversed(s), s},
		{rotated(o, 3), rotated(o, 7)},
		{reversed(o), rotated(o, 7)},
		{arch(9), arch(9)},
		// The first corner: the leftmost, then the lowest of them.
		{path(9, 9, 0, 4, 0, 2, 0, 6, 9, 1), path(0, 2, 9, 1, 9, 9, 0, 6)},
		{path(5, -9, 5, 9, 4, 0), path(4, 0, 5, -9, 5, 9)},
		// Points on edges are no corners: below, on the right, above and on the left.
		{path(0, 0, 1, 0, 2, 0, 4, 0, 4, 2, 4, 4, 3, 4, 0, 4, 0, 3, 0, 1), path(0, 0, 4, 0, 4, 4, 0, 4)},
		{path(0, 0, 1, 1, 2, 2, 3, 3, 3, 0, 2, 1, 1, 2, 0, 3), path(0, 0, 3, 0, 3, 3, 0, 3)},
		{path(-3, 0, 0, -3, 3, 0, 0, 3, -2, -1, -1, -2, 2, -1, 1, 2, -1, 2), path(-3, 0, 0, -3, 3, 0, 0, 3)},
		// Points inside, and corners given twice.
		{path(0, 0, 2, 1, 4, 0, 1, 2, 3, 3, 4, 4, 0, 4, 2, 2), path(0, 0, 4, 0, 4, 4, 0, 4)},
		{path(4, 4, 0, 0, 4, 0, 0, 0, 4, 4, 0, 4, 4, 0), path(0, 0, 4, 0, 4, 4, 0, 4)},
		{path(0, 5, -2, 0, 0, 1, 2, 0), path(-2, 0, 2, 0, 0, 5)},
	}
	checkHulls(t, rows)
	for _, points := range clouds() {
		if got, want := polygon.ConvexHull(points), wantConvexHull(points); !slices.Equal(got, want) {
			t.Fatalf("ConvexHull(%v) = %v, want %v", points, got, want)
		}
	}
	for _, r := range rows {
		if len(r.points) > 7 {
			continue
		}
		inEveryOrder(r.points, func(points []api.Vec) {
			if got := polygon.ConvexHull(points); !slices.Equal(got, r.want) {
				t.Fatalf("ConvexHull(%v) = %v, want %v", points, got, r.want)
			}
		})
	}
}

// P11.3: 1 to 64 points.
func TestConvexHullCountsItsPoints(t *testing.T) {
	grid := func(count int) []api.Vec {
		var list []api.Vec
		for i := range count {
			list = append(list, vec(i%8*one, i/8*one))
		}
		return list
	}
	checkHulls(t, []hullRow{
		{nil, nil},
		{[]api.Vec{}, nil},
		{grid(1), path(0, 0)},
		{grid(2), path(0, 0, one, 0)},
		{grid(63), times(one, path(0, 0, 7, 0, 7, 6, 6, 7, 0, 7))},
		{grid(64), times(one, path(0, 0, 7, 0, 7, 7, 0, 7))},
		{grid(65), nil},
		{make([]api.Vec, 65), nil},
		{make([]api.Vec, 5000), nil},
		// Each point is a corner.
		{arch(64), arch(64)},
		{reversed(arch(64)), arch(64)},
		{arch(65), nil},
	})
}

// P11.3: coordinates up to MaxCoordinate, in each place and with each sign.
func TestConvexHullKeepsToTheLimits(t *testing.T) {
	largest := path(-limit, -limit, limit, -limit, limit, limit, -limit, limit)
	diamond := path(-limit, 0, 0, -limit, limit, 0, 0, limit)
	rows := []hullRow{
		{path(limit, limit), path(limit, limit)},
		{path(-limit, -limit), path(-limit, -limit)},
		{path(0, limit+1), nil},
		{path(-limit-1, 0), nil},
		{reversed(largest), largest},
		{append(reversed(diamond), vec(0, 0), vec(limit/2, limit/2), vec(limit/2, limit/2-1)), diamond},
		{append(slices.Clone(diamond), vec(limit/2, limit/2+1)), slices.Insert(slices.Clone(diamond), 3, vec(limit/2, limit/2+1))},
		{path(-limit, -limit, limit, limit, 0, 0, 1, 0), path(-limit, -limit, 1, 0, limit, limit)},
		{path(-limit, -limit, limit, limit, 0, 0, -1, -1), path(-limit, -limit, limit, limit)},
		{path(high, high), nil},
		{path(low, low, high, high), nil},
		{path(-most, 0, most, 0, 0, most), nil},
	}
	for i := range largest {
		for _, wrong := range []int{limit + 1, -limit - 1, most, -most, far, low, high} {
			for _, v := range []api.Vec{vec(wrong, 0), vec(0, wrong), vec(wrong, wrong)} {
				rows = append(rows, hullRow{slices.Insert(slices.Clone(largest), i, v), nil})
			}
		}
	}
	checkHulls(t, rows)
}

// P11.3: a hull shares no memory with its points, even where they are the hull already.
func TestConvexHullIsNewMemory(t *testing.T) {
	for _, points := range [][]api.Vec{path(3, 3), path(1, 1, 2, 5), path(4, 4, 4, 4), square(), append(square(), vec(5, 5)), octagon(), arch(64)} {
		before := slices.Clone(points)
		hull := polygon.ConvexHull(points)
		want := slices.Clone(hull)
		whole := hull[:cap(hull)]
		for i := range whole {
			whole[i] = vec(77, 88)
		}
		if !slices.Equal(points, before) {
			t.Errorf("a change of the hull of %v turned the points into %v", before, points)
		}
		if again := polygon.ConvexHull(points); !slices.Equal(again, want) {
			t.Errorf("ConvexHull(%v) = %v, and %v before", points, again, want)
		}
	}
}

// P11.3: a corner lies on no segment between two others, and all corners turn left.
func TestConvexHullHasCornersOnly(t *testing.T) {
	for _, points := range clouds() {
		hull := polygon.ConvexHull(points)
		for k, c := range hull {
			if !slices.Contains(points, c) {
				t.Fatalf("ConvexHull(%v) has %v", points, c)
			}
			for j, b := range hull[:k] {
				for _, a := range hull[:j] {
					if cross(a, b, c).Sign() != 1 {
						t.Fatalf("ConvexHull(%v) has %v, %v, %v, which do not turn left", points, a, b, c)
					}
				}
			}
		}
	}
}

// P11.4
func TestContains(t *testing.T) {
	s, thin := square(), path(-limit, -limit, limit, limit-1, limit, limit)
	rows := []row[aim, bool]{
		{aim{s, vec(half, half)}, true},
		{aim{s, vec(1, 1)}, true},
		{aim{s, vec(one-1, 1)}, true},
		// On each edge and just beside it.
		{aim{s, vec(half, 0)}, true},
		{aim{s, vec(half, -1)}, false},
		{aim{s, vec(one, half)}, true},
		{aim{s, vec(one+1, half)}, false},
		{aim{s, vec(half, one)}, true},
		{aim{s, vec(half, one+1)}, false},
		{aim{s, vec(0, half)}, true},
		{aim{s, vec(-1, half)}, false},
		// On the lines through the edges.
		{aim{s, vec(2*one, 0)}, false},
		{aim{s, vec(-1, 0)}, false},
		{aim{s, vec(one, -1)}, false},
		{aim{s, vec(0, one+1)}, false},
		{aim{s, vec(5*one, 5*one)}, false},
		// Slanted edges.
		{aim{path(0, 0, 5, 3, 0, 9), vec(0, 0)}, true},
		{aim{path(0, 0, 5, 3, 0, 9), vec(2, 2)}, true},
		{aim{path(0, 0, 5, 3, 0, 9), vec(2, 1)}, false},
		{aim{path(0, 0, 10, 6, 0, 9), vec(5, 3)}, true},
		{aim{path(0, 0, 10, 6, 0, 9), vec(5, 2)}, false},
		{aim{path(0, 0, 1, 0, 0, 1), vec(1, 1)}, false},
		{aim{thin, vec(0, 0)}, true},
		{aim{thin, vec(0, -1)}, false},
		{aim{thin, vec(1, 1)}, true},
		{aim{thin, vec(0, 1)}, false},
		// Outside of the saturated range: the point is saturated first.
		{aim{s, vec(most, most)}, false},
		{aim{s, vec(-most, 0)}, false},
		{aim{s, vec(far, far)}, false},
		{aim{s, vec(low, half)}, false},
		{aim{s, vec(half, high)}, false},
		{aim{s, vec(high, low)}, false},
		{aim{s, vec(low, low)}, false},
		{aim{s, vec(1<<62, 1<<62)}, false},
		{aim{s, vec(1<<63-one, half)}, false},
		{aim{path(-limit, -limit, limit, -limit, limit, limit, -limit, limit), vec(limit, -limit)}, true},
		{aim{path(-limit, -limit, limit, -limit, limit, limit, -limit, limit), vec(limit+1, 0)}, false},
		{aim{path(-limit, -limit, limit, -limit, limit, limit, -limit, limit), vec(high, high)}, false},
	}
	for _, vertices := range [][]api.Vec{s, octagon(), times(one, octagon()), arch(8), thin} {
		for i, v := range vertices {
			next := vertices[(i+1)%len(vertices)]
			// The corners and, where it has whole coordinates, the middle of each edge.
			rows = append(rows, row[aim, bool]{aim{vertices, v}, true})
			if m := middle(v, next); plus(m, m) == plus(v, next) {
				rows = append(rows, row[aim, bool]{aim{vertices, m}, true})
			}
			rows = append(rows, row[aim, bool]{aim{vertices, plus(v, vec(v.X-next.X, v.Y-next.Y))}, false})
		}
	}
	for _, list := range notConvex() {
		for _, v := range append(path(0, 0, half, half, one, one), list...) {
			rows = append(rows, row[aim, bool]{aim{list, v}, false})
		}
	}
	contains := func(a aim) bool {
		return polygon.Contains(a.points, a.v)
	}
	check(t, "Contains", contains, wantContains, rows, aims())
}

// P11.4
func TestSupport(t *testing.T) {
	s := square()
	support := func(a aim) int {
		return polygon.Support(a.points, a.v)
	}
	check(t, "Support", support, wantSupport, []row[aim, int]{
		// No point, and one.
		{aim{nil, vec(1, 0)}, -1},
		{aim{[]api.Vec{}, vec(0, 0)}, -1},
		{aim{path(5, 5), vec(1, 0)}, 0},
		{aim{path(5, 5), vec(-1, -1)}, 0},
		{aim{path(low, high), vec(high, low)}, 0},
		// Each corner of the square.
		{aim{s, vec(-1, -1)}, 0},
		{aim{s, vec(1, -1)}, 1},
		{aim{s, vec(1, 1)}, 2},
		{aim{s, vec(-1, 1)}, 3},
		{aim{s, vec(7*one, -2)}, 1},
		// Ties: the first index.
		{aim{s, vec(1, 0)}, 1},
		{aim{s, vec(0, 1)}, 2},
		{aim{s, vec(-1, 0)}, 0},
		{aim{s, vec(0, -1)}, 0},
		{aim{reversed(s), vec(1, 0)}, 1},
		{aim{path(1, 1, 4, 2, 4, 2, 4, 2), vec(1, 1)}, 1},
		{aim{path(2, 3, 4, 1, 3, 2, 0, 0), vec(1, 1)}, 0},
		{aim{path(0, 0, 2, 3, 4, 1, 3, 2), vec(1, 1)}, 1},
		// The zero direction.
		{aim{s, vec(0, 0)}, 0},
		{aim{path(low, low, high, high), vec(0, 0)}, 0},
		// All products are negative.
		{aim{path(-5, 0, -3, 0, -4, 0), vec(1, 0)}, 1},
		{aim{path(5, 5, 4, 4, 6, 6), vec(-one, -one)}, 1},
		// It is exact: one unit decides.
		{aim{path(0, 0, 1, 0), vec(1, 0)}, 1},
		{aim{path(0, 0, 0, -1), vec(0, -1)}, 1},
		{aim{path(most, most, most, most-1, most-1, most), vec(most, most-1)}, 0},
		{aim{path(most-1, most, most, most-1), vec(most, most-1)}, 1},
		{aim{path(most, most-1, most-1, most), vec(most-1, most)}, 1},
		{aim{path(most, 1-most, 1-most, most), vec(most, most-1)}, 0},
		// Components are saturated first, those of points and of the direction.
		{aim{path(most, 0, far, 0), vec(1, 0)}, 0},
		{aim{path(most-1, 0, far, 0, high, 0), vec(1, 0)}, 1},
		{aim{path(-most, 0, low, 0, 0, 0), vec(-1, 0)}, 0},
		{aim{path(0, 1, 1, 0), vec(most, far)}, 0},
		{aim{path(1, 0, 0, 1), vec(high, far)}, 0},
		{aim{path(1, 0, 0, 1), vec(most-1, far)}, 1},
		{aim{path(0, 0, 1, 1), vec(high, low)}, 0},
		{aim{path(0, 1, 1, 0, -1, -1), vec(low, low)}, 2},
		{aim{path(low, low, high, low, high, high, low, high), vec(high, high)}, 2},
		{aim{path(low, low, high, low, high, high, low, high), vec(low, low)}, 0},
		{aim{path(low, low, high, low, high, high, low, high), vec(high, low)}, 1},
		{aim{path(low, low, high, low, high, high, low, high), vec(low, high)}, 3},
		// Any number of points, convex or not.
		{aim{arch(100), vec(-10, 1)}, 99},
		{aim{arch(100), vec(100, -1)}, 50},
		{aim{arch(100), vec(99, -1)}, 49},
		{aim{make([]api.Vec, 1000), vec(3, 4)}, 0},
	}, supportSamples())
}

func supportSamples() []aim {
	list := aims()
	dice := newDice(4)
	for range 20000 {
		var points []api.Vec
		for range dice.source.Intn(9) {
			points = append(points, dice.anyPoint())
		}
		list = append(list, aim{points, dice.anyPoint()})
		// Few different products, so that there are ties.
		list = append(list, aim{dice.points(dice.source.Intn(9), 2), dice.point(1)})
	}
	return list
}

// P11.5
func TestHullOfAHull(t *testing.T) {
	for _, points := range append(clouds(), lists()...) {
		hull := polygon.ConvexHull(points)
		if again := polygon.ConvexHull(hull); !slices.Equal(again, hull) {
			t.Fatalf("ConvexHull(%v) = %v, but the hull of that is %v", points, hull, again)
		}
	}
}

// P11.5
func TestHullIsAConvexPolygonWithAllPoints(t *testing.T) {
	counts := make([]int, 65)
	for _, points := range append(clouds(), lists()...) {
		hull := polygon.ConvexHull(points)
		counts[len(hull)]++
		suited := 3 <= len(hull) && len(hull) <= api.MaxVertices
		if got := polygon.IsConvex(hull); got != suited {
			t.Fatalf("IsConvex(%v) = %v, want %v", hull, got, suited)
		}
		for _, v := range points {
			if got := polygon.Contains(hull, v); got != suited {
				t.Fatalf("Contains(%v, %v) = %v, want %v", hull, v, got, suited)
			}
		}
	}
	for corners, count := range counts[:10] {
		if count < 20 {
			t.Errorf("only %d hulls have %d corners", count, corners)
		}
	}
}
