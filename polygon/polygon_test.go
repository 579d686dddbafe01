package polygon_test

import (
	"math"
	"slices"
	"testing"

	"carom/api"
	"carom/polygon"
)

const (
	one   = api.One
	half  = api.One / 2
	limit = api.MaxCoordinate
	most  = api.MaxValue
	far   = 1 << 40
	low   = math.MinInt
	high  = math.MaxInt
)

// aim is a list of points and a point or a direction.
type aim struct {
	points []api.Vec
	v      api.Vec
}

// row is a row of a table: the arguments and the value that the chapter asks for.
type row[A any, R comparable] struct {
	args A
	want R
}

func vec(x, y int) api.Vec {
	return api.Vec{X: x, Y: y}
}

func plus(a, b api.Vec) api.Vec {
	return vec(a.X+b.X, a.Y+b.Y)
}

func middle(a, b api.Vec) api.Vec {
	return vec((a.X+b.X)/2, (a.Y+b.Y)/2)
}

// path makes points of pairs of coordinates.
func path(coordinates ...int) []api.Vec {
	var list []api.Vec
	for i := 0; i+1 < len(coordinates); i += 2 {
		list = append(list, vec(coordinates[i], coordinates[i+1]))
	}
	return list
}

// times is the list with all coordinates multiplied by k.
func times(k int, points []api.Vec) []api.Vec {
	list := slices.Clone(points)
	for i, v := range list {
		list[i] = vec(k*v.X, k*v.Y)
	}
	return list
}

// moved is the list with all points moved by shift.
func moved(shift api.Vec, points []api.Vec) []api.Vec {
	list := slices.Clone(points)
	for i, v := range list {
		list[i] = plus(v, shift)
	}
	return list
}

func reversed(points []api.Vec) []api.Vec {
	list := slices.Clone(points)
	slices.Reverse(list)
	return list
}

// rotated is the list that starts with point i of the given one.
func rotated(points []api.Vec, i int) []api.Vec {
	return slices.Concat(points[i:], points[:i])
}

// picked is the list of the points with these indices.
func picked(points []api.Vec, indices ...int) []api.Vec {
	var list []api.Vec
	for _, i := range indices {
		list = append(list, points[i])
	}
	return list
}

// The square with side One, and an octagon.
func square() []api.Vec {
	return path(0, 0, one, 0, one, one, 0, one)
}

func octagon() []api.Vec {
	return path(1, 0, 2, 0, 3, 1, 3, 2, 2, 3, 1, 3, 0, 2, 0, 1)
}

// arch is a convex list with any number of vertices, which lie on a parabola.
func arch(count int) []api.Vec {
	var list []api.Vec
	for x := range count {
		list = append(list, vec(x, x*x))
	}
	return list
}

// check compares call with the rows and, on the samples, with oracle, which is held against the rows as well.
func check[A any, R comparable](t *testing.T, name string, call, oracle func(A) R, rows []row[A, R], samples []A) {
	t.Helper()
	for _, r := range rows {
		if got := call(r.args); got != r.want {
			t.Errorf("%s(%v) = %v, want %v", name, r.args, got, r.want)
		}
		if expected := oracle(r.args); expected != r.want {
			t.Errorf("%s(%v): the oracle says %v, the row %v", name, r.args, expected, r.want)
		}
	}
	for _, args := range samples {
		if got, want := call(args), oracle(args); got != want {
			t.Fatalf("%s(%v) = %v, want %v", name, args, got, want)
		}
	}
}

// P11.1
func TestIsConvex(t *testing.T) {
	triangle, s := path(0, 0, 1, 0, 0, 1), square()
	check(t, "IsConvex", polygon.IsConvex, wantIsConvex, []row[[]api.Vec, bool]{
		// 0 to 3, MaxVertices and MaxVertices + 1 vertices.
		{nil, false},
		{[]api.Vec{}, false},
		{triangle[:1], false},
		{triangle[:2], false},
		{triangle, true},
		{s, true},
		{arch(5), true},
		{octagon(), true},
		{arch(api.MaxVertices), true},
		{arch(api.MaxVertices + 1), false},
		{arch(100), false},
		{make([]api.Vec, 1000), false},
		// Clockwise.
		{reversed(triangle), false},
		{reversed(s), false},
		{reversed(octagon()), false},
		// A vertex appears twice, or all are one.
		{path(0, 0, 0, 0, 1, 0, 0, 1), false},
		{path(0, 0, 1, 0, 1, 0, 0, 1), false},
		{path(0, 0, 1, 0, 0, 1, 0, 0), false},
		{path(0, 0, 1, 0, 0, 0, 0, 1), false},
		{path(0, 0, 1, 0, 1, 0), false},
		{make([]api.Vec, 3), false},
		{make([]api.Vec, 8), false},
		// Three or all vertices lie on one line.
		{path(0, 0, 1, 0, 2, 0), false},
		{path(0, 0, 2, 2, 1, 1), false},
		{path(0, 0, one/2, 0, one, 0, one, one, 0, one), false},
		{path(0, 0, one, 0, one, one, one/2, one, 0, one), false},
		{path(0, 0, one, 0, one, one, 0, one, 0, one/3), false},
		{path(0, 0, 3, 0, 3, 3, 2, 2), false},
		{path(0, 0, one, 0, 2*one, 0, one, one), false},
		// By next to nothing to the left or to the right of that line.
		{path(0, 0, one/2, -1, one, 0, one, one, 0, one), true},
		{path(0, 0, one/2, 1, one, 0, one, one, 0, one), false},
		{path(0, 0, 5, 3, 3, 2), true},
		{path(0, 0, 5, 3, 2, 1), false},
		// A dent, at any vertex.
		{path(0, 0, 4, 0, 1, 1, 0, 4), false},
		{path(1, 1, 0, 4, 0, 0, 4, 0), false},
		{path(0, 0, 2, 1, 4, 0, 4, 4, 0, 4), false},
		// Edges that cross.
		{path(0, 0, 4, 4, 4, 0, 0, 4), false},
		{picked(octagon(), 0, 1, 2, 4, 3, 5, 6, 7), false},
	}, lists())
}

// P11.1: coordinates up to MaxCoordinate are allowed, in each place and with each sign.
func TestIsConvexKeepsToTheLimits(t *testing.T) {
	largest := path(-limit, -limit, limit, -limit, limit, limit, -limit, limit)
	rows := []row[[]api.Vec, bool]{
		{largest, true},
		{path(limit, 0, 0, limit, -limit, 0, 0, -limit), true},
		{path(limit-1, 0, limit, 0, limit, 1), true},
		{path(high, 0, high, high, 0, high), false},
		{path(low, low, high, low, 0, high), false},
		{path(-most, -most, most, -most, 0, most), false},
		{moved(vec(1<<62, 0), square()), false},
	}
	for i, v := range largest {
		for _, beyond := range []int{1, one, most, far, high - limit} {
			for _, shift := range []api.Vec{vec(beyond, 0), vec(0, beyond)} {
				list := slices.Clone(largest)
				// Outwards, so that only the coordinate itself is wrong.
				list[i] = plus(v, vec(shift.X*sign(v.X), shift.Y*sign(v.Y)))
				rows = append(rows, row[[]api.Vec, bool]{list, false})
			}
		}
	}
	check(t, "IsConvex", polygon.IsConvex, wantIsConvex, rows, nil)
}

func sign(x int) int {
	if x < 0 {
		return -1
	}
	return 1
}

// P11.1: lists that turn left at every vertex, but go around more than once.
func TestIsConvexRejectsStars(t *testing.T) {
	five, seven := path(0, 10, -10, 3, -6, -8, 6, -8, 10, 3), path(0, 100, -78, 62, -97, -22, -43, -90, 43, -90, 97, -22, 78, 62)
	for _, star := range [][]api.Vec{
		picked(five, 0, 2, 4, 1, 3),
		picked(seven, 0, 2, 4, 6, 1, 3, 5),
		picked(seven, 0, 3, 6, 2, 5, 1, 4),
		picked(octagon(), 0, 3, 6, 1, 4, 7, 2, 5),
		// Twice around a triangle and a square.
		picked(five, 0, 2, 3, 0, 2, 3),
		picked(octagon(), 0, 2, 4, 6, 0, 2, 4, 6),
		// Twice around, each time by other vertices.
		picked(octagon(), 0, 2, 4, 6, 1, 3, 5, 7),
	} {
		for i, v := range star {
			next, afterNext := star[(i+1)%len(star)], star[(i+2)%len(star)]
			if cross(v, next, afterNext).Sign() != 1 {
				t.Errorf("%v does not turn left after %v", star, v)
			}
			list := rotated(star, i)
			if polygon.IsConvex(list) {
				t.Errorf("IsConvex(%v) = true", list)
			}
		}
	}
	if !polygon.IsConvex(five) || !polygon.IsConvex(seven) {
		t.Error("the corners of the stars are no convex polygons")
	}
}

// P11.1: a convex list is one from every vertex on, and not if it is reversed.
func TestIsConvexFromEveryVertex(t *testing.T) {
	for _, vertices := range append(lists(), square(), octagon(), arch(8), times(one, octagon())) {
		convex := wantIsConvex(vertices)
		for i := range vertices {
			list := rotated(vertices, i)
			if got := polygon.IsConvex(list); got != convex {
				t.Fatalf("IsConvex(%v) = %v, want %v", list, got, convex)
			}
			if convex && polygon.IsConvex(reversed(list)) {
				t.Fatalf("IsConvex(%v) = true", reversed(list))
			}
		}
	}
}

// P11.1: every list of three and four points of a small grid, and every one of five of a smaller one.
func TestIsConvexOfAllSmallLists(t *testing.T) {
	for _, size := range []struct{ side, length int }{{4, 3}, {4, 4}, {3, 5}} {
		count, convex := 1, 0
		for range size.length {
			count *= size.side * size.side
		}
		for number := range count {
			var list []api.Vec
			for rest := number; len(list) < size.length; rest /= size.side * size.side {
				place := rest % (size.side * size.side)
				list = append(list, vec(place%size.side, place/size.side))
			}
			want := wantIsConvex(list)
			if got := polygon.IsConvex(list); got != want {
				t.Fatalf("IsConvex(%v) = %v, want %v", list, got, want)
			}
			if want {
				convex++
			}
		}
		if convex == 0 {
			t.Errorf("no list of %d points is convex", size.length)
		}
	}
}

// notConvex are lists for which there is nothing to measure.
func notConvex() [][]api.Vec {
	s := square()
	return [][]api.Vec{
		nil, {}, s[:1], s[:2], reversed(s), picked(s, 0, 2, 1, 3), picked(s, 0, 1, 1, 2, 3), arch(9),
		moved(vec(limit, 0), s), path(0, 0, one, 0, 2*one, 0), path(0, 0, limit+1, 0, 0, limit), path(low, low, high, low, 0, high),
		picked(times(one, octagon()), 0, 3, 6, 1, 4, 7, 2, 5),
	}
}

// P11.2
func TestMeasuresOfOtherLists(t *testing.T) {
	for _, list := range notConvex() {
		if area, centroid, shortest := polygon.Area(list), polygon.Centroid(list), polygon.ShortestEdge(list); area != 0 || centroid != vec(0, 0) || shortest != 0 {
			t.Errorf("of %v: Area %d, Centroid %v, ShortestEdge %d", list, area, centroid, shortest)
		}
	}
}

// P11.2
func TestArea(t *testing.T) {
	check(t, "Area", polygon.Area, wantArea, []row[[]api.Vec, int]{
		// The chapter's example.
		{square(), one},
		{path(0, 0, 4*one, 0, 0, 3*one), 6 * one},
		{path(-one, -one, 2*one, -one, 2*one, half, -one, half), 4*one + half},
		{path(0, 0, 2*one, 0, 3*one, one, 0, 2*one), 4 * one},
		{times(one, octagon()), 7 * one},
		{times(one/4, octagon()), 7 * one / 16},
		{times(one, path(-3, 1, -2, -1, 1, -2, 3, 0, 1, 3)), 17*one + half},
		// The largest ones.
		{path(-limit, -limit, limit, -limit, limit, limit, -limit, limit), 1024 * one},
		{path(-limit, -limit, limit, -limit, limit, limit), 512 * one},
		{path(-limit, 1-limit, 1-limit, -limit, limit-1, -limit, limit, 1-limit, limit, limit-1, limit-1, limit, 1-limit, limit, -limit, limit-1), 1024 * one},
		// The smallest ones: each k is 0, even where their sum would not be.
		{path(0, 0, 1, 0, 0, 1), 0},
		{path(7, 5, 7, 6, 6, 6), 0},
		{octagon(), 0},
		{path(0, 0, 32767, 0, 0, 1), 0},
		{path(0, 0, 162, 0, 162, 162, 0, 162), 0},
		// A k is rounded away from zero where it is a half, and so is half of the sum.
		{path(0, 0, 32768, 0, 0, 1), 1},
		{path(0, 0, 256, 0, 0, 128), 1},
		{path(0, 0, 256, 0, 256, 128, 0, 128), 1},
		{path(0, 0, 65535, 0, 0, 1), 1},
		{path(0, 0, 65536, 0, 0, 1), 1},
		{path(0, 0, 98303, 0, 0, 1), 1},
		{path(0, 0, 98304, 0, 0, 1), 1},
		{path(0, 0, 131072, 0, 0, 1), 1},
		{path(0, 0, 163839, 0, 0, 1), 1},
		{path(0, 0, 163840, 0, 0, 1), 2},
		{path(0, 0, one, 0, 0, 5), 3},
		{path(0, 0, one, 0, one, 5, 0, 5), 5},
		// Which k are rounded hangs on vertex 0.
		{path(0, 0, 130, -147, 200, 0, 130, 147), 0},
		{path(130, -147, 200, 0, 130, 147, 0, 0), 1},
	}, lists())
}

// P11.2
func TestCentroid(t *testing.T) {
	check(t, "Centroid", polygon.Centroid, wantCentroid, []row[[]api.Vec, api.Vec]{
		// The chapter's example.
		{square(), vec(32768, 32768)},
		{path(0, 0, 3*one, 0, 0, 6*one), vec(one, 2*one)},
		{path(-one, -one, 2*one, -one, 2*one, half, -one, half), vec(half, -one/4)},
		{path(-one, -one, one, -one, one, one, -one, one), vec(0, 0)},
		{times(one, octagon()), vec(3*one/2, 3*one/2)},
		{moved(vec(-9*one, 5), times(one, octagon())), vec(-15*one/2, 3*one/2+5)},
		// A trapezoid: its parts weigh 2 and 1.
		{path(0, 0, 2*one, 0, one, one, 0, one), vec(50972, 29127)},
		// The largest ones.
		{path(-limit, -limit, limit, -limit, limit, limit, -limit, limit), vec(0, 0)},
		{path(limit, limit, -limit, limit, -limit, -limit, limit, -limit), vec(0, 0)},
		{path(-limit, -limit, limit, -limit, limit, limit), vec(349525, -349525)},
		{path(limit, limit, -limit, limit, -limit, -limit), vec(-349525, 349525)},
		// The sum of all k is 0: vertex 0, whichever that is.
		{path(0, 0, 1, 0, 0, 1), vec(0, 0)},
		{path(1, 0, 0, 1, 0, 0), vec(1, 0)},
		{path(7, 5, 7, 6, 6, 6), vec(7, 5)},
		{octagon(), vec(1, 0)},
		{rotated(octagon(), 3), vec(3, 2)},
		{moved(vec(-limit, limit-3), octagon()), vec(1-limit, limit-3)},
		{path(0, 0, 32767, 0, 0, 1), vec(0, 0)},
		{path(-5, -7, 157, -7, 157, 155, -5, 155), vec(-5, -7)},
		// One k that is not 0 is enough, and it alone weighs then.
		{path(0, 0, 32768, 0, 0, 1), vec(10923, 0)},
		{path(0, 0, 256, 0, 0, 128), vec(85, 43)},
		{path(0, 0, 400, 0, 399, 99, 0, 1), vec(266, 33)},
		{path(0, 0, 130, -147, 200, 0, 130, 147), vec(0, 0)},
		{path(130, -147, 200, 0, 130, 147, 0, 0), vec(87, 0)},
		// Halves are rounded away from zero, on either side of vertex 0.
		{path(0, 0, 183, 0, 183, 183, 0, 183), vec(92, 92)},
		{path(183, 0, 183, 183, 0, 183, 0, 0), vec(91, 92)},
		{path(183, 183, 0, 183, 0, 0, 183, 0), vec(91, 91)},
		{path(0, 183, 0, 0, 183, 0, 183, 183), vec(92, 91)},
		{path(-183, -183, 0, -183, 0, 0, -183, 0), vec(-91, -91)},
		{path(0, 0, -183, 0, -183, -183, 0, -183), vec(-92, -92)},
		{moved(vec(10, -20), path(0, 0, 183, 0, 183, 183, 0, 183)), vec(102, 72)},
		{moved(vec(-1000, -2000), path(0, 0, 183, 0, 183, 183, 0, 183)), vec(-908, -1908)},
		// Thirds are rounded to the nearest.
		{path(0, 0, 1000, 0, 1000, 1000), vec(667, 333)},
		{path(1000, 1000, 0, 0, 1000, 0), vec(667, 333)},
		{path(0, 0, 1001, 0, 1001, 1000), vec(667, 333)},
	}, lists())
}

// P11.2
func TestShortestEdge(t *testing.T) {
	check(t, "ShortestEdge", polygon.ShortestEdge, wantShortestEdge, []row[[]api.Vec, int]{
		// The chapter's example.
		{square(), one},
		// Each edge in turn, the last one leads back to vertex 0.
		{path(0, 0, 2*one, 0, 3*one, 9*one), 2 * one},
		{path(3*one, 9*one, 0, 0, 2*one, 0), 2 * one},
		{path(2*one, 0, 3*one, 9*one, 0, 0), 2 * one},
		{path(0, 0, 4*one, 0, 4*one, 3*one), 3 * one},
		{path(0, 0, 9*one, 0, 4*one, 3*one), 5 * one},
		{path(0, 0, one, 0, one, half, 0, half), half},
		// Rounded down: sqrt(2), sqrt(5), sqrt(8), sqrt(17), sqrt(24) and sqrt(25).
		{path(0, 0, 1, 0, 0, 1), 1},
		{path(0, 0, 1, -1, 2, 0, 1, 1), 1},
		{path(0, 0, 1, -2, 2, 0, 1, 2), 2},
		{path(0, 0, 2, -2, 4, 0, 2, 2), 2},
		{path(0, 0, 1, -4, 2, 0, 1, 4), 4},
		{path(0, 0, 3, -4, 6, 0, 3, 4), 5},
		{times(one, path(0, 0, 1, -1, 2, 0, 1, 1)), 92681},
		{octagon(), 1},
		{arch(8), 1},
		// The largest ones.
		{path(-limit, -limit, limit, -limit, limit, limit, -limit, limit), 2 * limit},
		{path(-limit, -limit, limit, -limit, 0, limit), 2 * limit},
		{path(-limit, -limit, limit, 0, -limit, limit), 2 * limit},
		{path(-limit, -limit, limit, -limit, limit, 1-limit), 1},
		// Thin polygons.
		{path(-limit, 0, limit, -1, limit, 1), 2},
		{path(-limit, 0, 0, -1, limit, 0, 0, 1), limit},
	}, lists())
}

// P11.2: each k differs from the true area by less than it is rounded.
func TestAreaIsNearTheTrueOne(t *testing.T) {
	for _, vertices := range lists() {
		if !polygon.IsConvex(vertices) {
			continue
		}
		exact := 0.0
		for i, v := range vertices {
			next := vertices[(i+1)%len(vertices)]
			exact += float64(v.X*next.Y-v.Y*next.X) / (2 * one)
		}
		allowed := float64(len(vertices)-2)/4 + 0.5
		if got := float64(polygon.Area(vertices)); math.Abs(got-exact) > allowed+1e-6 {
			t.Fatalf("Area(%v) = %f, want about %f", vertices, got, exact)
		}
	}
}

// P11.1, P11.2, P11.3, P11.4: the points stay as they are, and so does the room behind them.
func TestPointsStayAsTheyAre(t *testing.T) {
	for _, list := range [][]api.Vec{
		append(reversed(times(one, octagon())), vec(1, 2), vec(3, 4)), append(times(one, octagon()), vec(1, 2), vec(3, 4)),
		path(9, 9, 3, 3, 9, 9, 3, 3, 5, 5, 7, 6), path(0, high, low, 0, far, far, -far, 0, 1, 1),
	} {
		before := slices.Clone(list)
		points := list[:len(list)-2]
		polygon.IsConvex(points)
		polygon.Area(points)
		polygon.Centroid(points)
		polygon.ShortestEdge(points)
		polygon.ConvexHull(points)
		polygon.Contains(points, vec(one, one))
		polygon.Support(points, vec(high, low))
		if !slices.Equal(list, before) {
			t.Errorf("the points are %v now, they were %v", list, before)
		}
	}
}
