package sat_test

import (
	"math"
	"slices"
	"testing"

	"carom/api"
	"carom/polygon"
	"carom/sat"
)

const (
	one   = api.One
	half  = api.One / 2
	limit = api.MaxCoordinate
	most  = api.MaxValue
	far   = 1 << 40
	low   = math.MinInt
	high  = math.MaxInt
)

type core = []api.Vec

// The arguments of one call.
type (
	side struct {
		core core
		edge int
	}
	pair struct{ a, b core }
	aim  struct {
		core core
		n    api.Vec
	}
)

// gap is what MaxSeparation answers.
type gap struct{ edge, separation int }

// row is a row of a table: the arguments and the value that the chapter asks for.
type row[A any, R comparable] struct {
	args A
	want R
}

func vec(x, y int) api.Vec {
	return api.Vec{X: x, Y: y}
}

func plus(a, b api.Vec) api.Vec {
	return vec(a.X+b.X, a.Y+b.Y)
}

func middle(a, b api.Vec) api.Vec {
	return vec((a.X+b.X)/2, (a.Y+b.Y)/2)
}

// path makes a core of pairs of coordinates.
func path(coordinates ...int) core {
	var list core
	for i := 0; i+1 < len(coordinates); i += 2 {
		list = append(list, vec(coordinates[i], coordinates[i+1]))
	}
	return list
}

// units makes a core of pairs of coordinates in whole units.
func units(coordinates ...int) core {
	list := path(coordinates...)
	for i, v := range list {
		list[i] = vec(v.X*one, v.Y*one)
	}
	return list
}

// moved is the core with all vertices moved by shift.
func moved(list core, shift api.Vec) core {
	list = slices.Clone(list)
	for i, v := range list {
		list[i] = plus(v, shift)
	}
	return list
}

// rotated is the core that starts with vertex i of the given one.
func rotated(list core, i int) core {
	return slices.Concat(list[i:], list[:i])
}

// The square with side 1, the triangle with the sides 3, 4 and 5, and the segment from (0, 0) to (3, 4).
func square() core {
	return units(0, 0, 1, 0, 1, 1, 0, 1)
}

func triangle() core {
	return units(0, 0, 3, 0, 3, 4)
}

func slanted() core {
	return units(0, 0, 3, 4)
}

// wound is the square with vertex 1 twice, so that edge 1 leads nowhere.
func wound() core {
	return units(0, 0, 1, 0, 1, 0, 1, 1, 0, 1)
}

// arch is a convex core with any number of vertices, which lie on a parabola.
func arch(count int) core {
	var list core
	for x := range count {
		list = append(list, vec(x, x*x))
	}
	return list
}

func edgeNormal(s side) api.Vec {
	return sat.EdgeNormal(s.core, s.edge)
}

func edgeDirection(s side) api.Vec {
	return sat.EdgeDirection(s.core, s.edge)
}

func maxSeparation(p pair) gap {
	i, s := sat.MaxSeparation(p.a, p.b)
	return gap{i, s}
}

func incidentEdge(a aim) int {
	return sat.IncidentEdge(a.core, a.n)
}

// check compares call with the rows and, on the samples, with oracle, which is held against the rows as well.
func check[A any, R comparable](t *testing.T, name string, call, oracle func(A) R, rows []row[A, R], samples []A) {
	t.Helper()
	for _, r := range rows {
		if got := call(r.args); got != r.want {
			t.Errorf("%s%v = %v, want %v", name, r.args, got, r.want)
		}
		if expected := oracle(r.args); expected != r.want {
			t.Errorf("%s%v: the oracle says %v, the row %v", name, r.args, expected, r.want)
		}
	}
	for _, args := range samples {
		if got, want := call(args), oracle(args); got != want {
			t.Fatalf("%s%v = %v, want %v", name, args, got, want)
		}
	}
}

// directed are edges and their directions.
func directed() []row[side, api.Vec] {
	return []row[side, api.Vec]{
		// Each edge of a polygon; the last one leads to vertex 0.
		{side{square(), 0}, vec(one, 0)},
		{side{square(), 1}, vec(0, one)},
		{side{square(), 2}, vec(-one, 0)},
		{side{square(), 3}, vec(0, -one)},
		{side{triangle(), 0}, vec(one, 0)},
		{side{triangle(), 1}, vec(0, one)},
		{side{triangle(), 2}, vec(-39322, -52429)},
		{side{units(5, 7, 5, 9, -7, 4), 0}, vec(0, one)},
		{side{units(5, 7, 5, 9, -7, 4), 1}, vec(-60495, -25206)},
		{side{units(5, 7, 5, 9, -7, 4), 2}, vec(63579, 15895)},
		// Clockwise.
		{side{units(0, 0, 0, 1, 1, 1, 1, 0), 0}, vec(0, one)},
		{side{units(0, 0, 0, 1, 1, 1, 1, 0), 3}, vec(-one, 0)},
		// More vertices than a polygon can have.
		{side{arch(1000), 0}, vec(one, one)},
		{side{arch(1000), 1}, vec(21845, one)},
		{side{arch(1000), 8}, vec(3855, one)},
		{side{arch(1000), 998}, vec(33, one)},
		{side{arch(1000), 999}, vec(-66, -one)},
		{side{arch(1000), 1000}, vec(0, 0)},
		// Both edges of two vertices.
		{side{slanted(), 0}, vec(39322, 52429)},
		{side{slanted(), 1}, vec(-39322, -52429)},
		{side{units(-2, 5, -2, 1), 0}, vec(0, -one)},
		{side{units(-2, 5, -2, 1), 1}, vec(0, one)},
		// Lengths are rounded down, so that the shortest edges have directions that are too long.
		{side{path(0, 0, 1, 0), 0}, vec(one, 0)},
		{side{path(0, 0, 1, 1), 0}, vec(one, one)},
		{side{path(0, 0, 1, 1), 1}, vec(-one, -one)},
		{side{path(7, 7, 9, 9), 0}, vec(one, one)},
		{side{path(7, 7, 10, 4), 0}, vec(49152, -49152)},
		{side{path(0, 0, 1, -2), 0}, vec(half, -one)},
		// Vertices that coincide.
		{side{path(0, 0, 0, 0), 0}, vec(0, 0)},
		{side{path(5, 7, 5, 7), 1}, vec(0, 0)},
		{side{wound(), 0}, vec(one, 0)},
		{side{wound(), 1}, vec(0, 0)},
		{side{wound(), 2}, vec(0, one)},
		{side{units(0, 0, 3, 4, 0, 0), 1}, vec(-39322, -52429)},
		{side{units(0, 0, 3, 4, 0, 0), 2}, vec(0, 0)},
		// Vertices are saturated, and so is their difference.
		{side{path(0, 0, most, 4095), 0}, vec(one, 0)},
		{side{path(0, 0, high, 4096), 0}, vec(one, 1)},
		{side{path(0, 0, low, -4096), 0}, vec(-one, -1)},
		{side{path(0, 0, far, 2*far), 0}, vec(one, one)},
		{side{path(far, 3, high, 3), 0}, vec(0, 0)},
		{side{path(most, low, most+1, -far), 1}, vec(0, 0)},
		{side{path(-most, 0, most, most), 0}, vec(one, one)},
		{side{path(-most, 0, most, most), 1}, vec(-one, -one)},
		{side{path(low, 0, high, 268435455), 0}, vec(one, half)},
		{side{path(low, high, high, low), 0}, vec(one, -one)},
		{side{path(high, 0, 0, 0, 0, low), 2}, vec(one, one)},
		{side{path(-most, -most, most, -most, most, most), 1}, vec(0, one)},
		// No such edge.
		{side{slanted(), -1}, vec(0, 0)},
		{side{slanted(), 2}, vec(0, 0)},
		{side{slanted(), 3}, vec(0, 0)},
		{side{square(), -1}, vec(0, 0)},
		{side{square(), -4}, vec(0, 0)},
		{side{square(), 4}, vec(0, 0)},
		{side{square(), 5}, vec(0, 0)},
		{side{square(), far}, vec(0, 0)},
		{side{square(), -far}, vec(0, 0)},
		{side{square(), high}, vec(0, 0)},
		{side{square(), low}, vec(0, 0)},
		{side{square()[:3], 3}, vec(0, 0)},
		// No vertex and one.
		{side{nil, 0}, vec(0, 0)},
		{side{nil, -1}, vec(0, 0)},
		{side{nil, 1}, vec(0, 0)},
		{side{core{}, 0}, vec(0, 0)},
		{side{square()[:0], 0}, vec(0, 0)},
		{side{units(3, 4), 0}, vec(0, 0)},
		{side{units(3, 4), 1}, vec(0, 0)},
		{side{units(3, 4), -1}, vec(0, 0)},
		{side{square()[1:2], 0}, vec(0, 0)},
	}
}

// P14.1
func TestEdgeDirection(t *testing.T) {
	check(t, "EdgeDirection", edgeDirection, wantDirection, directed(), sides())
}

// P14.1: the normal points to the right of the direction.
func TestEdgeNormal(t *testing.T) {
	rows := []row[side, api.Vec]{
		{side{square(), 0}, vec(0, -one)},
		{side{square(), 1}, vec(one, 0)},
		{side{square(), 2}, vec(0, one)},
		{side{square(), 3}, vec(-one, 0)},
		{side{triangle(), 2}, vec(-52429, 39322)},
		{side{slanted(), 0}, vec(52429, -39322)},
		{side{slanted(), 1}, vec(-52429, 39322)},
		{side{path(0, 0, 1, 2), 0}, vec(one, -half)},
		{side{path(low, 0, high, 268435455), 1}, vec(-half, one)},
	}
	for _, r := range directed() {
		rows = append(rows, row[side, api.Vec]{r.args, vec(r.want.Y, -r.want.X)})
	}
	check(t, "EdgeNormal", edgeNormal, wantNormal, rows, sides())
}

// P14.1: the two edges of a segment have opposite directions and normals.
func TestEdgesOfASegmentAreOpposite(t *testing.T) {
	for _, c := range cores() {
		if len(c) < 2 {
			continue
		}
		s := c[:2]
		d, back := sat.EdgeDirection(s, 0), sat.EdgeDirection(s, 1)
		n, behind := sat.EdgeNormal(s, 0), sat.EdgeNormal(s, 1)
		if back != vec(-d.X, -d.Y) || behind != vec(-n.X, -n.Y) {
			t.Fatalf("the edges of %v have the directions %v and %v and the normals %v and %v", s, d, back, n, behind)
		}
	}
}

// P14.1: the edges of a convex polygon have all of it on the inner side of their normals.
func TestNormalsPointOut(t *testing.T) {
	dice := newDice(6)
	for range 3000 {
		a := dice.polygon(4 * one)
		for i, from := range a {
			n := sat.EdgeNormal(a, i)
			for _, v := range a {
				// The rounding of the normal counts for little.
				if along := n.X*(v.X-from.X) + n.Y*(v.Y-from.Y); along > 16*one {
					t.Fatalf("vertex %v of %v lies %d before edge %d", v, a, along/one, i)
				}
			}
		}
	}
}

// P14.2
func TestMaxSeparation(t *testing.T) {
	s, line := square(), units(0, 0, 4, 0)
	check(t, "MaxSeparation", maxSeparation, wantMaxSeparation, []row[pair, gap]{
		// The chapter's example, and the other way round.
		{pair{s, units(2, 0, 3, 0, 3, 1, 2, 1)}, gap{1, one}},
		{pair{units(2, 0, 3, 0, 3, 1, 2, 1), s}, gap{3, one}},
		// On each side of the square.
		{pair{s, units(0, -3, 1, -3, 1, -2)}, gap{0, 2 * one}},
		{pair{s, units(4, 0, 5, 0, 5, 1)}, gap{1, 3 * one}},
		{pair{s, units(0, 5, 1, 6, 0, 6)}, gap{2, 4 * one}},
		{pair{s, units(-9, 0, -5, 0, -9, 1)}, gap{3, 5 * one}},
		// Positive, 0 and negative.
		{pair{s, moved(s, vec(one+1, 0))}, gap{1, 1}},
		{pair{s, moved(s, vec(one, 0))}, gap{1, 0}},
		{pair{s, moved(s, vec(one-1, 0))}, gap{1, -1}},
		{pair{s, moved(s, vec(0, 3*one/4))}, gap{2, -one / 4}},
		{pair{s, moved(s, vec(-one/4, -half))}, gap{0, -half}},
		{pair{s, moved(s, vec(-half, -one/4))}, gap{3, -half}},
		// Another edge has a greater one.
		{pair{s, units(2, 3, 9, 3, 9, 9)}, gap{2, 2 * one}},
		{pair{s, units(3, 2, 9, 9, 4, 9)}, gap{1, 2 * one}},
		// Of several equal ones the first counts.
		{pair{s, s}, gap{0, -one}},
		{pair{rotated(s, 1), s}, gap{0, -one}},
		{pair{s, units(2, 2)}, gap{1, one}},
		{pair{rotated(s, 2), units(2, 2)}, gap{0, one}},
		{pair{s, units(-1, -1)}, gap{0, one}},
		{pair{rotated(s, 1), units(-1, -1)}, gap{2, one}},
		{pair{s, units(-1, 2)}, gap{2, one}},
		{pair{s, units(1, 1)}, gap{1, 0}},
		{pair{s, path(half, half)}, gap{0, -half}},
		{pair{s, path(3*one/4, half)}, gap{1, -one / 4}},
		// b has one vertex and two.
		{pair{s, units(0, 3)}, gap{2, 2 * one}},
		{pair{triangle(), units(0, 5)}, gap{2, 196609}},
		{pair{triangle(), units(1, 1)}, gap{2, -13108}},
		{pair{s, units(3, -4, 3, 4)}, gap{1, 2 * one}},
		{pair{s, units(3, 4, 2, 7)}, gap{2, 3 * one}},
		{pair{s, units(-1, 0, 2, 1)}, gap{0, -one}},
		// a has two vertices, so that both directions are edges.
		{pair{line, units(1, 2)}, gap{1, 2 * one}},
		{pair{line, units(1, -2)}, gap{0, 2 * one}},
		{pair{line, units(9, 0)}, gap{0, 0}},
		{pair{line, units(1, -2, 1, 3)}, gap{1, -2 * one}},
		{pair{line, units(1, 2, 1, -3)}, gap{0, -2 * one}},
		{pair{line, s}, gap{1, 0}},
		{pair{line, units(5, 2, 6, 1, 7, 3)}, gap{1, one}},
		{pair{slanted(), units(4, -3)}, gap{0, 327682}},
		{pair{slanted(), units(-4, 3)}, gap{1, 327681}},
		// An edge that leads nowhere has the separation 0 from everything.
		{pair{units(2, 2, 2, 2), units(7, 7)}, gap{0, 0}},
		{pair{wound(), path(half, half)}, gap{1, 0}},
		{pair{wound(), units(3, 0)}, gap{2, 2 * one}},
		{pair{units(0, 0, 1, 0, 1, 1, 0, 1, 0, 0), path(half, half)}, gap{4, 0}},
		// The normals of the shortest edges are too long.
		{pair{path(0, 0, 1, 1), units(1, 0)}, gap{0, one}},
		{pair{path(0, 0, 1, 1), units(-1, 1)}, gap{1, 2 * one}},
		{pair{path(0, 0, 4, 3), path(3, -4)}, gap{0, 5}},
		{pair{path(0, 0, 4, 3), path(1, 0)}, gap{0, 1}},
		{pair{path(0, 0, 3, 4), path(0, 1)}, gap{1, 1}},
		{pair{path(0, 0, 3, 1), path(0, 1, 1, 1)}, gap{1, 1}},
	}, pairs())
}

// P14.2
func TestMaxSeparationOfTooFewVertices(t *testing.T) {
	many := arch(500)
	check(t, "MaxSeparation", maxSeparation, wantMaxSeparation, []row[pair, gap]{
		{pair{nil, nil}, gap{-1, 0}},
		{pair{nil, square()}, gap{-1, 0}},
		{pair{core{}, units(3, 4)}, gap{-1, 0}},
		{pair{square()[:0], square()}, gap{-1, 0}},
		{pair{units(3, 4), nil}, gap{-1, 0}},
		{pair{units(3, 4), units(9, 9)}, gap{-1, 0}},
		{pair{units(3, 4), slanted()}, gap{-1, 0}},
		{pair{square()[:1], many}, gap{-1, 0}},
		{pair{slanted(), nil}, gap{-1, 0}},
		{pair{square(), nil}, gap{-1, 0}},
		{pair{square(), core{}}, gap{-1, 0}},
		{pair{many, square()[:0]}, gap{-1, 0}},
		// As few as there may be, and many.
		{pair{slanted(), units(0, 0)}, gap{0, 0}},
		// The rounded normal of the last edge points past vertex 0, at which the edge ends.
		{pair{many, many[:1]}, gap{499, 1}},
		{pair{many, path(499, 0)}, gap{0, 499}},
		{pair{many, many}, gap{499, -124}},
	}, nil)
}

// P14.2: vertices, their differences and the products with the normals are saturated.
func TestMaxSeparationSaturates(t *testing.T) {
	s, line := square(), units(0, 0, 4, 0)
	check(t, "MaxSeparation", maxSeparation, wantMaxSeparation, []row[pair, gap]{
		{pair{s, path(far, 0)}, gap{1, most - one}},
		{pair{s, path(far, high)}, gap{1, most - one}},
		{pair{s, path(far, low)}, gap{0, most}},
		{pair{s, path(one/4, low, one/4, high)}, gap{3, -one / 4}},
		{pair{line, path(0, low, 0, high)}, gap{0, -most}},
		{pair{line, path(far, low)}, gap{0, most}},
		{pair{line, path(far, low, far, 7-most)}, gap{0, most - 7}},
		// The differences from edges 1 and 2 are not equal, but saturated.
		{pair{moved(s, vec(-most, -most)), path(most-9, most)}, gap{1, most}},
		{pair{moved(s, vec(-most, -most)), path(-9, most)}, gap{2, most}},
		{pair{path(low, low, one-most, low, one-most, one-most, low, one-most), path(high-5, high)}, gap{1, most}},
		// The edges are saturated.
		{pair{path(low, 0, high, 0), path(5, 7)}, gap{1, 7}},
		{pair{path(high, 3, far, 3), path(5, 7)}, gap{0, 0}},
		{pair{path(-most, 0, most, most), path(-most, one)}, gap{1, one}},
		{pair{path(-most, 0, most, most), path(most, 0)}, gap{0, most}},
		// Products beyond the range, by normals that are too long.
		{pair{path(0, 0, 1, 1), path(most, -most)}, gap{0, most}},
		{pair{path(0, 0, 1, 1), path(most, -most, -most, most)}, gap{0, -most}},
		{pair{path(0, 0, 1, 1), path(low, high)}, gap{1, most}},
		{pair{path(2, 2, 2, 1, 3, 0, 2, 2), path(low, low)}, gap{0, most}},
	}, nil)
}

// P14.2: no edge has a greater separation than the one returned, and none before it has the same.
func TestMaxSeparationIsTheFirstLargest(t *testing.T) {
	for _, p := range pairs() {
		if len(p.a) < 2 || len(p.b) < 1 {
			continue
		}
		got := maxSeparation(p)
		for i, s := range wantSeparations(p) {
			if s > got.separation || s == got.separation && i < got.edge || s != got.separation && i == got.edge {
				t.Fatalf("MaxSeparation%v = %v, but edge %d has the separation %d", p, got, i, s)
			}
		}
	}
}

// P14.2
func TestIncidentEdge(t *testing.T) {
	s, house := square(), units(3, 9, 0, 5, 0, 0, 3, 0)
	check(t, "IncidentEdge", incidentEdge, wantIncidentEdge, []row[aim, int]{
		{aim{s, vec(one, 0)}, 3},
		{aim{s, vec(0, one)}, 0},
		{aim{s, vec(-one, 0)}, 1},
		{aim{s, vec(0, -one)}, 2},
		{aim{s, vec(2, 1)}, 3},
		{aim{s, vec(1, 2)}, 0},
		{aim{s, vec(-1, -2)}, 2},
		{aim{triangle(), vec(0, 1)}, 0},
		{aim{triangle(), vec(-1, 0)}, 1},
		{aim{triangle(), vec(1, 0)}, 2},
		{aim{triangle(), vec(one, one/4)}, 2},
		{aim{triangle(), vec(one, one)}, 0},
		// Of several equal ones the first counts.
		{aim{s, vec(one, one)}, 0},
		{aim{s, vec(-one, -one)}, 1},
		{aim{s, vec(one, -one)}, 2},
		{aim{s, vec(-one, one)}, 0},
		{aim{rotated(s, 1), vec(one, one)}, 2},
		{aim{rotated(s, 3), vec(one, -one)}, 0},
		{aim{slanted(), vec(3, 4)}, 0},
		// Equal as they are rounded, but not before: -0.8 and -1.
		{aim{house, vec(1, 0)}, 0},
		{aim{house, vec(3, 0)}, 1},
		{aim{house, vec(one, 0)}, 1},
		// The zero vector.
		{aim{s, vec(0, 0)}, 0},
		{aim{triangle(), vec(0, 0)}, 0},
		{aim{slanted(), vec(0, 0)}, 0},
		{aim{wound(), vec(0, 0)}, 0},
		// Two vertices.
		{aim{units(0, 0, 3, 0), vec(0, one)}, 0},
		{aim{units(0, 0, 3, 0), vec(0, -one)}, 1},
		{aim{units(0, 0, 3, 0), vec(one, 0)}, 0},
		{aim{slanted(), vec(-one, 0)}, 0},
		{aim{slanted(), vec(one, 0)}, 1},
		// One and none.
		{aim{units(3, 4), vec(one, 0)}, -1},
		{aim{units(3, 4), vec(0, 0)}, -1},
		{aim{s[:1], vec(0, one)}, -1},
		{aim{nil, vec(one, 0)}, -1},
		{aim{nil, vec(0, 0)}, -1},
		{aim{core{}, vec(0, one)}, -1},
		{aim{s[:0], vec(high, low)}, -1},
		// Edges that lead nowhere.
		{aim{units(7, 7, 7, 7), vec(one, 0)}, 0},
		{aim{wound(), vec(one, 0)}, 4},
		{aim{units(1, 0, 1, 0, 1, 1), vec(one, 0)}, 2},
		{aim{units(0, 0, 1, 1, 1, 1, 0, 0), vec(0, -one)}, 2},
		// Many vertices.
		{aim{arch(1000), vec(0, one)}, 0},
		{aim{arch(1000), vec(-one, -one)}, 978},
		{aim{arch(1000), vec(one, 0)}, 999},
		// The vector and its product with a normal are saturated.
		{aim{s, vec(high, 0)}, 3},
		{aim{s, vec(0, low)}, 2},
		{aim{s, vec(2*far, far)}, 0},
		{aim{s, vec(most+1, most)}, 0},
		{aim{s, vec(most, most-1)}, 3},
		{aim{path(0, 2, 0, 1, 1, 0), vec(one, one)}, 1},
		{aim{path(0, 2, 0, 1, 1, 0), vec(most, most)}, 0},
		{aim{path(0, 2, 0, 1, 1, 0), vec(high, high)}, 0},
		// The vertices and the edges are saturated.
		{aim{path(low, 0, high, 0), vec(0, one)}, 0},
		{aim{path(far, 0, high, 0, 0, one), vec(0, -one)}, 1},
		{aim{path(low, low, high, low, high, high, low, high), vec(-one, -half)}, 1},
	}, aims())
}

// P14.3: squares that have a gap of about 128 between them, or overlap by as much, on each side.
func TestSeparationAround128(t *testing.T) {
	s := square()
	for _, width := range []int{-129, -128, -127, -1, 0, 1, 127, 128, 129, 130} {
		for i, way := range []api.Vec{vec(0, -1), vec(1, 0), vec(0, 1), vec(-1, 0)} {
			b := moved(s, vec(way.X*(one+width), way.Y*(one+width)))
			if got, want := maxSeparation(pair{s, b}), (gap{i, width}); got != want {
				t.Errorf("MaxSeparation(%v, %v) = %v, want %v", s, b, got, want)
			}
			corner := vec(max(way.X, 0)*one, max(way.Y, 0)*one)
			shared := polygon.Contains(s, corner) && polygon.Contains(b, corner)
			if want := width <= 0; shared != want || apart(s, b) == want {
				t.Errorf("%v and %v share the corner %v: %v, want %v", s, b, corner, shared, want)
			}
		}
	}
}

// P14.3: the rounding of normals makes polygons that touch seem to be apart, but by less than 128.
func TestSeparatedPolygonsAreApart(t *testing.T) {
	list, below, above, touching := near(), 0, 0, 0
	for _, p := range list {
		for _, q := range []pair{p, {p.b, p.a}} {
			_, s := sat.MaxSeparation(q.a, q.b)
			disjoint := apart(q.a, q.b)
			switch {
			case s > 128 && !disjoint:
				t.Fatalf("MaxSeparation%v = %d, but the two have a common point", q, s)
			case s > 128 && s <= 160:
				above++
			case s > 96 && s <= 128:
				below++
			case s > 8 && !disjoint:
				touching++
			}
		}
	}
	if min(below, above) < 500 || touching < 5 {
		t.Errorf("of %d pairs only %d lie just below 128, %d just above and %d touch in spite of a separation", len(list), below, above, touching)
	}
}

// P14.3: of separated polygons neither the corners nor the points halfway between them are contained in both.
func TestSeparatedPolygonsShareNoPoint(t *testing.T) {
	count := 0
	for _, p := range near() {
		if _, s := sat.MaxSeparation(p.a, p.b); s <= 128 {
			continue
		}
		count++
		for _, v := range p.a {
			for _, w := range p.b {
				for _, x := range (core{v, w, middle(v, w)}) {
					if polygon.Contains(p.a, x) && polygon.Contains(p.b, x) {
						t.Fatalf("%v and %v both contain %v", p.a, p.b, x)
					}
				}
			}
		}
	}
	if count < 500 {
		t.Errorf("only %d pairs were separated", count)
	}
}

// P14.1, P14.2: the vertices stay as they are, and those behind the length of a core are not seen.
func TestVerticesStayAsTheyAre(t *testing.T) {
	for _, list := range []core{
		append(square(), vec(9*one, 9), vec(9, -9*one)), append(triangle(), vec(low, high), vec(high, low)),
		path(high, low, far, -far, 0, 0, 1, 1, 5, 5, 7, 6), append(slanted(), vec(one, 0), vec(0, one)),
	} {
		before := slices.Clone(list)
		count := len(list) - 2
		short, alone := list[:count], slices.Clip(slices.Clone(list[:count]))
		b, n := units(2, 3, 5, 1), vec(-one, 7)
		for i := -1; i <= count+1; i++ {
			if sat.EdgeNormal(short, i) != sat.EdgeNormal(alone, i) || sat.EdgeDirection(short, i) != sat.EdgeDirection(alone, i) {
				t.Errorf("edge %d of %v depends on what lies behind the core", i, short)
			}
		}
		same := maxSeparation(pair{short, b}) == maxSeparation(pair{alone, b}) && maxSeparation(pair{b, short}) == maxSeparation(pair{b, alone})
		if !same || sat.IncidentEdge(short, n) != sat.IncidentEdge(alone, n) {
			t.Errorf("the answers for %v depend on what lies behind the core", short)
		}
		if !slices.Equal(list, before) {
			t.Errorf("the vertices are %v now, they were %v", list, before)
		}
	}
}
