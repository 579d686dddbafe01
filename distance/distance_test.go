package distance_test

import (
	"math"
	"slices"
	"testing"

	"carom/api"
	"carom/distance"
	"carom/shape"
)

const (
	one     = api.One
	half    = api.One / 2
	fourth  = api.One / 4
	limit   = api.MaxCoordinate
	most    = api.MaxValue
	quarter = api.HalfPi
	world   = api.WorldLimit
	far     = 1 << 40
	low     = math.MinInt
	high    = math.MaxInt
)

// pair holds the arguments of Separation and Overlap.
type pair struct {
	a  api.Shape
	ta api.Transform
	b  api.Shape
	tb api.Transform
}

// aimed holds the arguments of ToPoint.
type aimed struct {
	s api.Shape
	t api.Transform
	v api.Vec
}

// row is a row of a table: the arguments and the distance that the chapter asks for.
type row struct {
	args pair
	want int
}

// pointRow is a row of a table for ToPoint.
type pointRow struct {
	args aimed
	want int
}

func vec(x, y int) api.Vec {
	return api.Vec{X: x, Y: y}
}

func plus(a, b api.Vec) api.Vec {
	return vec(a.X+b.X, a.Y+b.Y)
}

// path makes vertices of pairs of coordinates.
func path(coordinates ...int) []api.Vec {
	var list []api.Vec
	for i := 0; i+1 < len(coordinates); i += 2 {
		list = append(list, vec(coordinates[i], coordinates[i+1]))
	}
	return list
}

func at(x, y, angle int) api.Transform {
	return api.Transform{Position: vec(x, y), Angle: angle}
}

func disc(radius, x, y int) api.Shape {
	return api.Shape{Kind: api.Circle, Radius: radius, Vertices: path(x, y)}
}

func pill(radius int, ends ...int) api.Shape {
	return api.Shape{Kind: api.Capsule, Radius: radius, Vertices: path(ends...)}
}

func poly(coordinates ...int) api.Shape {
	return api.Shape{Kind: api.Polygon, Vertices: path(coordinates...)}
}

// whole is the shape with coordinates that were given in whole units.
func whole(s api.Shape) api.Shape {
	for i, v := range s.Vertices {
		s.Vertices[i] = vec(v.X*one, v.Y*one)
	}
	return s
}

// block is the square with side 4 and a corner at the origin.
func block() api.Shape {
	return whole(poly(0, 0, 4, 0, 4, 4, 0, 4))
}

// diamond is a square with corners to the left, below, to the right and above.
func diamond() api.Shape {
	return whole(poly(-1, 0, 0, -1, 1, 0, 0, 1))
}

// ring is an octagon around (3, 3).
func ring() api.Shape {
	return whole(poly(2, 0, 4, 0, 6, 2, 6, 4, 4, 6, 2, 6, 0, 4, 0, 2))
}

// bar is the capsule from (-1, 0) to (1, 0).
func bar() api.Shape {
	return whole(pill(fourth, -1, 0, 1, 0))
}

// thin is the capsule with the smallest radius and the ends that are given in whole units.
func thin(ends ...int) api.Shape {
	return whole(pill(api.MinRadius, ends...))
}

// shifted is the polygon whose list begins with corner i.
func shifted(s api.Shape, i int) api.Shape {
	s.Vertices = slices.Concat(s.Vertices[i:], s.Vertices[:i])
	return s
}

// backwards is the shape with its vertices in the other order.
func backwards(s api.Shape) api.Shape {
	s.Vertices = slices.Clone(s.Vertices)
	slices.Reverse(s.Vertices)
	return s
}

// both puts two shapes where their local coordinates say.
func both(a, b api.Shape) pair {
	return pair{a: a, b: b}
}

// apart moves the second shape by (x, y).
func apart(a, b api.Shape, x, y int) pair {
	return pair{a: a, b: b, tb: at(x, y, 0)}
}

// to aims at a point of the shape's local coordinates.
func to(s api.Shape, x, y int) aimed {
	return aimed{s: s, v: vec(x, y)}
}

// exchanged is the pair in the other order.
func (p pair) exchanged() pair {
	return pair{p.b, p.tb, p.a, p.ta}
}

// kinds are the kinds of both shapes.
func (p pair) kinds() [2]api.ShapeKind {
	return [2]api.ShapeKind{p.a.Kind, p.b.Kind}
}

func (p pair) isValid() bool {
	return shape.Validate(p.a) == api.OK && shape.Validate(p.b) == api.OK
}

func separation(p pair) int {
	return distance.Separation(p.a, p.ta, p.b, p.tb)
}

func overlap(p pair) bool {
	return distance.Overlap(p.a, p.ta, p.b, p.tb)
}

func toPoint(a aimed) int {
	return distance.ToPoint(a.s, a.t, a.v)
}

// check holds Separation, Overlap and the oracle against the rows, and against the rows with the shapes exchanged.
func check(t *testing.T, rows []row) {
	t.Helper()
	for _, r := range rows {
		for _, p := range []pair{r.args, r.args.exchanged()} {
			if got := separation(p); got != r.want {
				t.Errorf("Separation%v = %d, want %d", p, got, r.want)
			}
			if got := overlap(p); got != (r.want == 0) {
				t.Errorf("Overlap%v = %v, but the separation is %d", p, got, r.want)
			}
			if expected := wantSeparation(p); expected != r.want {
				t.Errorf("Separation%v: the oracle says %d, the row %d", p, expected, r.want)
			}
		}
	}
}

// checkPoints holds ToPoint and the oracle against the rows.
func checkPoints(t *testing.T, rows []pointRow) {
	t.Helper()
	for _, r := range rows {
		if got := toPoint(r.args); got != r.want {
			t.Errorf("ToPoint%v = %d, want %d", r.args, got, r.want)
		}
		if expected := wantToPoint(r.args); expected != r.want {
			t.Errorf("ToPoint%v: the oracle says %d, the row %d", r.args, expected, r.want)
		}
	}
}

// P17.1, with the example of the chapter.
func TestSeparationOfCircles(t *testing.T) {
	small, big := disc(one, 0, 0), disc(8*one, 0, 0)
	check(t, []row{
		// The example.
		{apart(small, small, 4*one, 0), 2 * one},
		{apart(small, small, 0, -4*one), 2 * one},
		{apart(disc(3*one, 0, 0), disc(half, 0, 0), -9*one, 0), 11 * half},
		// At distance 1, touching, and closer: never negative.
		{apart(small, small, 2*one+2, 0), 2},
		{apart(small, small, 2*one+1, 0), 1},
		{apart(small, small, 2*one, 0), 0},
		{apart(small, small, 2*one-1, 0), 0},
		{apart(small, small, one, 0), 0},
		{apart(small, small, 1, 0), 0},
		{apart(small, small, 0, 0), 0},
		{apart(disc(2049, 0, 0), disc(2050, 0, 0), 0, 4100), 1},
		{apart(disc(2049, 0, 0), disc(2050, 0, 0), 0, 4099), 0},
		{apart(disc(2049, 0, 0), disc(2050, 0, 0), 0, -4098), 0},
		{apart(big, big, 16*one+1, 0), 1},
		{apart(big, big, -16*one, 0), 0},
		// One within the other.
		{apart(big, disc(api.MinRadius, 0, 0), 3*one, one), 0},
		{apart(big, small, 0, 7*one), 0},
		// In any direction.
		{apart(small, disc(2*one, 0, 0), 3*one, 4*one), 2 * one},
		{apart(small, disc(4*one, 0, 0), -3*one, 4*one), 0},
		{apart(small, disc(4*one-1, 0, 0), 3*one, -4*one), 1},
		{apart(small, disc(4*one+1, 0, 0), -3*one, -4*one), 0},
		// Distances are rounded down.
		{apart(small, small, 2*one, 1), 0},
		{apart(small, small, 2*one, 511), 0},
		{apart(small, small, 2*one, 513), 1},
		{apart(small, small, 3*one, one), 76171},
		{apart(disc(2049, 0, 0), disc(2051, 0, 0), 2901, 2901), 2},
		{apart(disc(2049, 0, 0), disc(2051, 0, 0), 2900, 2900), 1},
		{apart(disc(2049, 0, 0), disc(2051, 0, 0), 2899, 2899), 0},
		// Centers that are not the origins of the shapes.
		{both(disc(one, 5, 6), disc(one, 5, 6+3*one)), one},
		{apart(disc(one, one, 0), disc(one, -one, 0), 3*one, 0), 0},
		{apart(disc(one, one, 0), disc(one, -one, 0), 9*one, 0), 5 * one},
	})
}

// P17.1
func TestSeparationOfCirclesAndCapsules(t *testing.T) {
	b, small, steep := bar(), disc(one, 0, 0), whole(pill(half, 0, 0, 3, 4))
	check(t, []row{
		// Beside the axis.
		{apart(b, small, 0, 2*one), 3 * fourth},
		{apart(b, small, half, -3*one), 7 * fourth},
		{apart(b, small, -half, 5*fourth+1), 1},
		{apart(b, small, half, -5*fourth), 0},
		{apart(b, small, half, 5*fourth-1), 0},
		{apart(b, small, one, 5*fourth+1), 1},
		{apart(b, small, 0, one), 0},
		// Beside an end.
		{apart(b, small, 3*one, 0), 3 * fourth},
		{apart(b, small, -9*fourth-1, 0), 1},
		{apart(b, small, -9*fourth, 0), 0},
		{apart(b, small, 9*fourth+1, 0), 1},
		{apart(b, small, 9*fourth, 0), 0},
		{apart(b, small, 9*fourth-1, 0), 0},
		{apart(b, small, 4*one, 4*one), 15 * fourth},
		{apart(b, small, -4*one, -4*one), 15 * fourth},
		{apart(b, disc(19*fourth, 0, 0), 4*one, 4*one), 0},
		{apart(b, disc(19*fourth-1, 0, 0), 4*one, 4*one), 1},
		// The center on the axis, on its ends, and in the capsule.
		{apart(b, small, half, 0), 0},
		{apart(b, small, one, 0), 0},
		{apart(b, small, -one, 0), 0},
		{apart(b, disc(api.MinRadius, 0, 0), 0, 0), 0},
		{apart(b, disc(api.MinRadius, 0, 0), half, fourth/2), 0},
		// A slanted axis.
		{apart(steep, small, 4*one, -3*one), 7 * half},
		{apart(steep, disc(9*half, 0, 0), 4*one, -3*one), 0},
		{apart(steep, small, 6*one, 8*one), 7 * half},
		{apart(steep, disc(api.MinRadius, 0, 0), 2*one, one), half - api.MinRadius},
		{apart(steep, disc(half-1, 0, 0), 2*one, one), 1},
		{apart(steep, disc(half, 0, 0), 2*one, one), 0},
	})
}

// P17.1
func TestSeparationOfCapsules(t *testing.T) {
	b, thick := bar(), whole(pill(half, 0, -1, 0, 1))
	check(t, []row{
		// Crossing, also far from all ends.
		{both(b, thick), 0},
		{apart(b, thick, half, half), 0},
		{apart(b, thick, -7, 9), 0},
		{both(thin(-16, 0, 16, 0), thin(0, -16, 0, 16)), 0},
		{both(thin(-16, -16, 16, 16), thin(-9, 10, 8, -12)), 0},
		// Touching at an end.
		{both(b, whole(pill(fourth, 1, 0, 3, 4))), 0},
		{both(b, whole(pill(fourth, -3, 4, -1, 0))), 0},
		{apart(b, thick, half, one), 0},
		{apart(b, thick, one, -half), 0},
		// Parallel.
		{apart(b, b, 0, one), half},
		{apart(b, b, 0, half+1), 1},
		{apart(b, b, 0, half), 0},
		{apart(b, b, 0, half-1), 0},
		{apart(b, b, 0, 1), 0},
		{apart(b, b, half, -one), half},
		{apart(b, b, 2*one, one), half},
		{apart(b, b, -4*one, one), 113774},
		{apart(b, b, 5*one, -4*one), 9 * half},
		{apart(b, thin(-16, 0, 16, 0), 0, 2*one), 7*fourth - api.MinRadius},
		{apart(b, backwards(b), 0, one), half},
		// On one line.
		{apart(b, b, 3*one, 0), half},
		{apart(b, b, -3*one, 0), half},
		{apart(b, b, 5*half+1, 0), 1},
		{apart(b, b, 5*half, 0), 0},
		{apart(b, b, 5*half-1, 0), 0},
		{apart(b, b, 2*one, 0), 0},
		{apart(b, b, one, 0), 0},
		{apart(b, b, 0, 0), 0},
		{apart(b, backwards(b), 2*one+half+7, 0), 7},
		{both(thin(1, 1, 3, 3), thin(6, 7, 9, 11)), 5*one - 2*api.MinRadius},
		// An end beside the other one, and beside its end.
		{apart(b, thick, half, 9*fourth), half},
		{apart(b, thick, half, 7*fourth+1), 1},
		{apart(b, thick, half, 7*fourth), 0},
		{apart(b, thick, half, -9*fourth), half},
		{apart(b, thick, 7*fourth+5, half), 5},
		{apart(b, whole(pill(fourth, 0, 0, 9, 9)), 4*one, 4*one), 9 * half},
		{apart(b, whole(pill(fourth, 9, 9, 0, 0)), 4*one, 4*one), 9 * half},
		// The radii alone overlap.
		{both(whole(pill(8*one, 0, 0, 1, 0)), whole(pill(8*one, -3, 15, 9, 15))), 0},
		{both(whole(pill(8*one, 0, 0, 1, 0)), whole(pill(7*one-1, -3, 15, 9, 15))), 1},
	})
}

// P17.1
func TestSeparationOfAPolygonAndACircle(t *testing.T) {
	s, small, dot := block(), disc(one, 0, 0), disc(api.MinRadius, 0, 0)
	check(t, []row{
		// The center inside, farther from all edges than the radius.
		{apart(s, dot, 2*one, 2*one), 0},
		{apart(s, dot, one, 3*one), 0},
		{apart(s, dot, 4*one-api.MinRadius-9, half), 0},
		{apart(s, small, 2*one, 2*one), 0},
		{apart(ring(), dot, 3*one, 3*one), 0},
		{apart(shifted(ring(), 5), dot, 5*one, 2*one), 0},
		{apart(s, disc(8*one, 0, 0), 2*one, 2*one), 0},
		// On an edge and at a corner.
		{apart(s, dot, 2*one, 0), 0},
		{apart(s, dot, 4*one, one), 0},
		{apart(s, dot, 3*one, 4*one), 0},
		{apart(s, dot, 0, 2*one), 0},
		{apart(s, dot, 0, 0), 0},
		{apart(s, dot, 4*one, 4*one), 0},
		// Beside each edge.
		{apart(s, small, 2*one, -3*one), 2 * one},
		{apart(s, small, 6*one, 2*one), one},
		{apart(s, small, 2*one, 6*one), one},
		{apart(s, small, -3*one, 2*one), 2 * one},
		{apart(s, small, 2*one, -one-1), 1},
		{apart(s, small, 5*one+1, 2*one), 1},
		{apart(s, small, one, 5*one+1), 1},
		{apart(s, small, -one-1, 3*one), 1},
		{apart(s, small, 2*one, -one), 0},
		{apart(s, small, 5*one, 4*one), 0},
		{apart(s, small, 0, 5*one), 0},
		{apart(s, small, -one, 2*one), 0},
		{apart(s, small, 5*one-1, 2*one), 0},
		{apart(s, dot, 4*one+1, 2*one), 0},
		// Beside a corner.
		{apart(s, small, 7*one, 8*one), 4 * one},
		{apart(s, small, -4*one, 7*one), 4 * one},
		{apart(s, small, -3*one, -4*one), 4 * one},
		{apart(s, small, 8*one, -3*one), 4 * one},
		{apart(s, disc(5*one, 0, 0), 7*one, 8*one), 0},
		{apart(s, disc(5*one-1, 0, 0), 7*one, 8*one), 1},
		{apart(s, disc(5*one+1, 0, 0), -3*one, -4*one), 0},
		{apart(s, dot, 4*one+1449, 4*one+1449), 1},
		{apart(s, dot, 4*one+1448, 4*one+1448), 0},
		// Beside a slanted edge, where the distance is rounded.
		{apart(diamond(), small, 2*one, 2*one), 73486},
		{apart(diamond(), small, 3*one, 2*one), 119827},
	})
}

// P17.1
func TestSeparationOfAPolygonAndACapsule(t *testing.T) {
	s, b := block(), bar()
	check(t, []row{
		// Beside each edge: parallel, and with an end.
		{apart(s, b, 2*one, -one), 3 * fourth},
		{apart(s, b, 2*one, 5*one), 3 * fourth},
		{apart(s, b, 6*one, one), 3 * fourth},
		{apart(s, b, -3*one, one), 7 * fourth},
		{apart(s, b, 2*one, -fourth-1), 1},
		{apart(s, b, 2*one, -fourth), 0},
		{apart(s, b, 2*one, 1-fourth), 0},
		{apart(s, b, 21*fourth+1, 2*one), 1},
		{apart(s, b, 21*fourth, 2*one), 0},
		{apart(s, b, -5*fourth-1, 2*one), 1},
		{apart(s, backwards(b), -5*fourth, 2*one), 0},
		// Beside a corner.
		{apart(s, b, 8*one, 8*one), 19 * fourth},
		{apart(s, b, -4*one, -4*one), 19 * fourth},
		{both(s, thin(3, 8, 8, 3)), 139022 - api.MinRadius},
		{both(s, thin(3, 5, 5, 3)), 0},
		{both(s, thin(3, 6, 6, 3)), 46340 - api.MinRadius},
		// The first end inside, on an edge, and at a corner.
		{both(s, thin(1, 1, 9, 1)), 0},
		{both(s, thin(2, 2, 2, -5)), 0},
		{both(s, thin(4, 2, 9, 2)), 0},
		{both(s, thin(4, 4, 9, 9)), 0},
		// The second end alone.
		{both(s, thin(9, 1, 1, 1)), 0},
		{both(s, thin(2, -5, 2, 2)), 0},
		{both(s, thin(9, 2, 4, 2)), 0},
		{both(s, thin(9, 9, 4, 4)), 0},
		// Both ends inside, farther from all edges than the radius.
		{both(s, thin(1, 1, 3, 2)), 0},
		{apart(s, b, 2*one, 2*one), 0},
		{both(s, thin(0, 0, 4, 4)), 0},
		{both(s, thin(0, 1, 0, 3)), 0},
		// Neither: it passes through, or along an edge, or over a corner.
		{both(s, thin(-5, 2, 9, 2)), 0},
		{both(s, thin(9, 1, -5, 3)), 0},
		{both(s, thin(3, -1, 5, 1)), 0},
		{both(s, thin(-1, -1, 5, 5)), 0},
		{both(s, thin(-2, 4, 6, 4)), 0},
		{both(s, thin(4, 9, 4, -9)), 0},
		{both(s, thin(-2, 2, 2, -2)), 0},
		// On the line of an edge.
		{both(s, thin(6, 4, 9, 4)), 2*one - api.MinRadius},
		{both(s, thin(-9, 0, -3, 0)), 3*one - api.MinRadius},
		// The radius alone reaches the polygon, from any side.
		{both(s, whole(pill(3*one, 7, 1, 7, 3))), 0},
		{both(s, whole(pill(3*one, 7, -9, 7, 9))), 0},
		{both(s, whole(pill(3*one-1, 7, -9, 7, 9))), 1},
		{both(s, whole(pill(8*one, -6, -6, -7, -7))), 31803},
	})
}

// P17.1
func TestSeparationOfPolygons(t *testing.T) {
	s, d := block(), diamond()
	wide, tall := whole(poly(-8, -1, 8, -1, 8, 1, -8, 1)), whole(poly(-1, -8, 1, -8, 1, 8, -1, 8))
	check(t, []row{
		// Edge beside edge.
		{apart(s, s, 5*one, 0), one},
		{apart(s, s, -6*one, one), 2 * one},
		{apart(s, s, one, 9*one), 5 * one},
		{apart(s, s, -one, -7*one), 3 * one},
		{apart(s, s, 4*one+1, 0), 1},
		{apart(s, s, 4*one+1, 3*one), 1},
		{apart(s, s, 3*one, -4*one-1), 1},
		{apart(s, s, 4*one, 0), 0},
		{apart(s, s, 4*one, -3*one), 0},
		{apart(s, s, 0, 4*one), 0},
		{apart(s, s, 4*one-1, 0), 0},
		{apart(s, s, one, 4*one-1), 0},
		// Corner beside corner.
		{apart(s, s, 4*one, 4*one), 0},
		{apart(s, s, -4*one, 4*one), 0},
		{apart(s, s, 7*one, 8*one), 5 * one},
		{apart(s, s, -8*one, -7*one), 5 * one},
		{apart(s, s, 4*one+3, 4*one+4), 5},
		{apart(s, s, 4*one+1, 4*one+1), 1},
		{apart(s, s, 4*one+2, -4*one-2), 2},
		{apart(s, s, 4*one+4, 4*one+5), 6},
		// Corner beside edge.
		{apart(s, d, 6*one, 2*one), one},
		{apart(s, d, -5*one, one), 4 * one},
		{apart(s, d, 2*one, 5*one+1), 1},
		{apart(s, d, 2*one, 5*one), 0},
		{apart(s, d, 2*one, 5*one-1), 0},
		{apart(d, d, 2*one, 2*one), 92681},
		// A first corner inside the other one.
		{apart(s, d, 4*one+half, 2*one), 0},
		{apart(d, s, -half, -half), 0},
		{both(s, whole(poly(2, 2, 9, 1, 9, 3))), 0},
		// Another one alone.
		{apart(s, d, -half, 2*one), 0},
		{apart(s, d, 2*one, 4*one+half), 0},
		{both(s, whole(poly(9, 1, 9, 3, 2, 2))), 0},
		{both(s, whole(poly(9, 3, 2, 2, 9, 1))), 0},
		{apart(s, s, 3*one, 3*one), 0},
		{apart(s, s, 3*one, -3*one), 0},
		// None of either: a cross.
		{both(wide, tall), 0},
		{apart(wide, tall, 5*one, -6*one), 0},
		// One within the other, whose edges do not meet.
		{apart(s, d, 2*one, 2*one), 0},
		{apart(s, shifted(d, 2), 2*one, 2*one), 0},
		{apart(ring(), s, one, one), 0},
		{apart(ring(), d, 3*one, 3*one), 0},
		{both(whole(poly(-16, -16, 16, -16, 16, 16, -16, 16)), poly(0, 0, 4096, 0, 0, 8192)), 0},
		// One within the other, whose edges touch, and one on the other.
		{apart(s, d, one, one), 0},
		{both(s, s), 0},
		{both(s, shifted(s, 3)), 0},
		{both(ring(), ring()), 0},
	})
}

// slanted are shapes with a point beside an edge, or beside the axis of a capsule, from which the closest point is rounded: the way from its second end would make a different distance than that from its first one.
func slanted() []pointRow {
	fine := func(ends ...int) api.Shape { return pill(api.MinRadius, ends...) }
	return []pointRow{
		{to(fine(0, 0, 4621, -1224), 4311, 10441), 9149},
		{to(fine(4621, -1224, 0, 0), 4311, 10441), 9148},
		{to(fine(0, 0, 5682, 4736), -2072, 11286), 7947},
		{to(fine(5682, 4736, 0, 0), -2072, 11286), 7948},
		// The edges 0, 1 and 2.
		{to(poly(-1524, -6620, 3925, -4136, -8470, 8247), 2789, -7058), 2187},
		{to(poly(4602, 5490, -7507, 7405, -2003, -8813), -8298, 2827), 2220},
		{to(poly(1998, 3417, -1274, -7802, 8326, -3138), 8769, 9162), 8862},
	}
}

// P17.1, P17.2: edges and axes lead from their first end to their second one, and not back.
func TestDistancesRoundFromTheFirstEnd(t *testing.T) {
	checkPoints(t, slanted())
	for _, r := range slanted() {
		check(t, []row{{apart(r.args.s, disc(api.MinRadius, 0, 0), r.args.v.X, r.args.v.Y), r.want - api.MinRadius}})
	}
}

// P17.1: each shape at its transform.
func TestSeparationOfTurnedShapes(t *testing.T) {
	s, b, small := block(), bar(), disc(one, 0, 0)
	eighth := quarter / 2
	check(t, []row{
		// A circle about its own center stays as it is, about another one it does not.
		{pair{small, at(0, 0, quarter), small, at(3*one, 0, -1)}, one},
		{pair{disc(one, 3*one, 0), at(0, 0, quarter), disc(one, 3*one, 0), at(0, 0, -quarter)}, 4 * one},
		{pair{disc(one, 3*one, 0), at(0, 0, quarter), small, at(0, 0, 0)}, one},
		{pair{disc(one, 3*one, 0), at(0, 0, -2*quarter), disc(one, 3*one, 0), at(0, 4*one, -2*quarter)}, 2 * one},
		// Capsules.
		{pair{b, at(0, 0, quarter), small, at(2*one, half, 0)}, 3 * fourth},
		{pair{small, at(2*one, half, 0), b, at(0, 0, -quarter)}, 3 * fourth},
		{pair{b, at(0, 0, quarter), b, at(0, 2*one, 0)}, half},
		{pair{b, at(0, 0, quarter), b, at(0, half, 0)}, 0},
		{pair{b, at(0, 0, 0), b, at(3*half, 0, quarter)}, 0},
		// Polygons.
		{pair{s, at(0, 0, quarter), small, at(-6*one, one, 3)}, one},
		{pair{s, at(0, 0, quarter), small, at(2*one, 2*one, 0)}, one},
		{pair{s, at(0, 0, quarter), disc(api.MinRadius, 0, 0), at(-2*one, 2*one, 0)}, 0},
		{pair{s, at(0, 0, -2*quarter), s, at(one, 0, 0)}, one},
		{pair{s, at(0, 0, -quarter), s, at(-2*one, -one, 0)}, 0},
		{pair{s, at(0, 0, quarter), b, at(-2*one, -2*one, 0)}, 7 * fourth},
		{pair{s, at(0, 0, quarter), thin(-1, 0, 1, 0), at(-2*one, 2*one, quarter)}, 0},
		{pair{diamond(), at(0, 0, quarter), s, at(2*one, 0, 0)}, one},
		{pair{s, at(0, 0, 0), diamond(), at(2*one, 2*one, eighth)}, 0},
		// Turned by an eighth, the diamond is a square with side 1.41.
		{pair{diamond(), at(0, 0, eighth), s, at(2*one, -one, 0)}, 131072 - 46341},
		// Any angle counts, as if it were normalized.
		{pair{s, at(0, 0, quarter+4*quarter), small, at(-6*one, one, 3)}, one},
		{pair{s, at(0, 0, quarter-400*quarter), small, at(-6*one, one, far)}, one},
	})
}

// P17.1: far away sums saturate, and cores shrink, even to a single point, which contains every point.
func TestSeparationFarAway(t *testing.T) {
	s, small, b, tail := block(), disc(one, 0, 0), bar(), whole(pill(fourth, 0, 0, 2, 0))
	anywhere, corner := at(high, far, 0), at(most, most, low)
	check(t, []row{
		{pair{small, anywhere, small, corner}, 0},
		{pair{small, at(low, low, 7), small, at(-far, -most, 0)}, 0},
		{pair{small, at(high, 0, 0), small, at(most-5*one, 0, 0)}, 3 * one},
		{pair{disc(8*one, 0, 0), corner, disc(8*one, 0, 0), at(most-17*one, most, 0)}, one},
		// A distance beyond MaxValue is saturated before the radii are taken from it.
		{pair{small, at(most, 0, 0), small, at(-most, 0, 0)}, most - 2*one},
		{pair{small, at(high, 0, 0), small, at(low, 0, 0)}, most - 2*one},
		{pair{small, at(most, most, 0), disc(8*one, 0, 0), at(-most, -most, 0)}, most - 9*one},
		{pair{small, at(-world, world, 0), small, at(world, world, 0)}, most - 2*one},
		{pair{small, at(most, 0, 0), small, at(0, 0, 0)}, most - 2*one},
		{pair{small, at(most, 0, 0), small, at(2*one, 0, 0)}, most - 4*one},
		{pair{s, at(most-4*one, most-4*one, 0), s, at(-most, -most, 0)}, most},
		{pair{s, at(most-4*one, 0, 0), b, at(-most, 0, 0)}, most - fourth},
		// Capsules that shrink to a point or to a half.
		{pair{tail, anywhere, tail, anywhere}, 0},
		{pair{tail, anywhere, b, at(far, most-3*one, 0)}, 5 * half},
		{pair{b, at(most, 0, 0), b, at(most, 3*fourth, 0)}, fourth},
		{pair{b, at(far, 0, 0), small, at(high, 2*one, 0)}, 3 * fourth},
		{pair{tail, at(most, 0, 0), small, at(most-5*one, 0, 0)}, 15 * fourth},
		// A polygon that shrinks to a segment, which contains every point on its line.
		{pair{s, at(most, 0, 0), small, at(most-3*one, 2*one, 0)}, 2 * one},
		{pair{s, at(most, 0, 0), small, at(most-one-1, 2*one, 0)}, 1},
		{pair{s, at(most, 0, 0), small, at(most-one, 2*one, 0)}, 0},
		{pair{s, at(most, 0, 0), small, at(most, 2*one, 0)}, 0},
		{pair{s, at(most, 0, 0), small, at(most, 50*one, 0)}, 0},
		{pair{s, at(most, 0, 0), small, at(most-1, 9*one, 0)}, 4 * one},
		{pair{s, at(most, 0, 0), small, at(most-3*one, 8*one, 0)}, 4 * one},
		{pair{s, at(most, 0, 0), s, at(most-7*one, 0, 0)}, 3 * one},
		{pair{s, at(most, 0, 0), s, at(high, 50*one, 0)}, 0},
		{pair{s, at(most-9*one, 20*one, 0), s, at(high, 0, 0)}, 1098583},
		// It is the first vertex of the other core that counts there.
		{pair{s, at(most, 0, 0), thin(0, 0, 4, 0), at(most-4*one, 9*one, 0)}, 5*one - api.MinRadius},
		{pair{s, at(most, 0, 0), thin(4, 0, 0, 0), at(most-4*one, 9*one, 0)}, 0},
		{pair{s, at(most, 0, 0), s, at(most-4*one, 9*one, 0)}, 5 * one},
		{pair{s, at(most, 0, 0), shifted(s, 1), at(most-4*one, 9*one, 0)}, 0},
		{pair{s, at(most, 0, 0), shifted(s, 3), at(most-4*one, 9*one, 0)}, 5 * one},
		// A polygon that shrinks to a point.
		{pair{s, anywhere, small, corner}, 0},
		{pair{s, anywhere, small, at(0, 0, 0)}, 0},
		{pair{s, anywhere, b, at(-7, low, 0)}, 0},
		{pair{s, anywhere, s, anywhere}, 0},
		{pair{s, anywhere, s, at(0, 0, 0)}, 0},
		// At the limits of the world nothing is saturated.
		{pair{s, at(world-5*one, world, 0), s, at(world, world, 0)}, one},
		{pair{small, at(-world, -world, 0), s, at(-world+2*one, -world, 0)}, one},
		{pair{small, at(-world, world, 0), small, at(world-2, world, 0)}, most - 1 - 2*one},
		{pair{small, at(-world, world, 0), small, at(world-1, world, 0)}, most - 2*one},
	})
}

// invalidShapes are shapes of each kind with each fault.
func invalidShapes() []api.Shape {
	kind := func(kind api.ShapeKind, s api.Shape) api.Shape {
		s.Kind = kind
		return s
	}
	radius := func(radius int, s api.Shape) api.Shape {
		s.Radius = radius
		return s
	}
	return []api.Shape{
		{}, {Kind: api.Circle}, {Kind: api.Capsule}, {Kind: api.Polygon}, {Vertices: path(0, 0)},
		kind(0, disc(one, 0, 0)), kind(4, bar()), kind(-1, block()), kind(far, block()),
		kind(api.Capsule, disc(one, 0, 0)), kind(api.Polygon, disc(one, 0, 0)), kind(api.Circle, bar()), kind(api.Polygon, bar()), kind(api.Circle, block()), kind(api.Capsule, block()),
		disc(api.MinRadius-1, 0, 0), disc(api.MaxRadius+1, 0, 0), disc(0, 0, 0), disc(-one, 0, 0), disc(low, 0, 0), disc(high, 0, 0), disc(one, limit+1, 0), disc(one, 0, low),
		radius(one, poly(0, 0)), {Kind: api.Circle, Radius: one, Vertices: path(0, 0, one, 0)},
		radius(api.MinRadius-1, bar()), radius(api.MaxRadius+1, bar()), radius(0, bar()), pill(half, 0, 0, 0, limit+1), pill(half, 0, 0, api.MinEdgeLength-1, 0), pill(half, 7, 7, 7, 7), pill(half, 0, 0), pill(half, 0, 0, one, 0, 2*one, 0),
		radius(1, block()), radius(-1, block()), radius(one, block()), whole(poly(0, 0, 4, 0)), whole(poly(0, 0, 17, 0, 17, 4, 0, 4)),
		backwards(block()), whole(poly(0, 0, 2, 0, 4, 0, 4, 4, 0, 4)), whole(poly(0, 0, 4, 0, 1, 1, 0, 4)), whole(poly(0, 0, 0, 0, 0, 0)), poly(0, 0, api.MinEdgeLength-1, 0, 0, 8192), poly(0, 0, 8192, 0, 4096, 4080),
		whole(poly(0, 0, 2, 0, 4, 1, 5, 2, 5, 4, 4, 5, 2, 5, 1, 4, 0, 2)),
	}
}

// P17.1: an invalid shape is far from everything, even from itself, wherever it is.
func TestSeparationOfInvalidShapes(t *testing.T) {
	for _, bad := range invalidShapes() {
		for _, other := range append(invalidShapes(), disc(one, 0, 0), bar(), block(), diamond()) {
			for _, p := range []pair{both(bad, other), apart(bad, other, one, one), both(bad, bad), {bad, at(high, low, far), other, at(0, 0, 0)}, {bad, at(high, high, 0), other, at(high, high, 0)}} {
				for _, q := range []pair{p, p.exchanged()} {
					if got := separation(q); got != most {
						t.Errorf("Separation%v = %d, want %d", q, got, most)
					}
					if overlap(q) {
						t.Errorf("Overlap%v = true", q)
					}
				}
			}
		}
	}
}

// P17.1
func TestSeparationOfSamples(t *testing.T) {
	for _, p := range pairs() {
		if got, want := separation(p), wantSeparation(p); got != want {
			t.Fatalf("Separation%v = %d, want %d", p, got, want)
		}
	}
}

// P17.1: the samples have every outcome, for every two kinds.
func TestSamplesHaveEveryOutcome(t *testing.T) {
	type outcome struct {
		kinds    [2]api.ShapeKind
		distance int
	}
	counts, within := map[outcome]int{}, 0
	for _, p := range meetings() {
		counts[outcome{p.kinds(), min(2, separation(p))}]++
		a, b := bodyOf(p.a, p.ta), bodyOf(p.b, p.tb)
		if a.surrounds(b.core[0]) || b.surrounds(a.core[0]) {
			within++
		}
	}
	for _, a := range []api.ShapeKind{api.Circle, api.Capsule, api.Polygon} {
		for _, b := range []api.ShapeKind{api.Circle, api.Capsule, api.Polygon} {
			for d := range 3 {
				if o := (outcome{[2]api.ShapeKind{a, b}, d}); counts[o] < 20 {
					t.Errorf("only %d samples have the outcome %v", counts[o], o)
				}
			}
		}
	}
	if within < 1000 {
		t.Errorf("only %d samples have a first vertex inside a polygon", within)
	}
}

// P17.3
func TestSeparationIsSymmetric(t *testing.T) {
	for _, p := range pairs() {
		if got, want := separation(p.exchanged()), separation(p); got != want {
			t.Fatalf("Separation%v = %d, but exchanged %d", p, want, got)
		}
		if got, want := overlap(p.exchanged()), overlap(p); got != want {
			t.Fatalf("Overlap%v = %v, but exchanged %v", p, want, got)
		}
	}
}

// P17.1
func TestOverlapIsASeparationOfZero(t *testing.T) {
	count := 0
	for _, p := range pairs() {
		got := overlap(p)
		if want := p.isValid() && separation(p) == 0; got != want {
			t.Fatalf("Overlap%v = %v, want %v", p, got, want)
		}
		if got {
			count++
		}
	}
	if count < 1000 {
		t.Errorf("only %d pairs overlap", count)
	}
}

// P17.1: separations are those of the shapes, up to the rounding of the closest points, and never negative.
func TestSeparationsAreTrue(t *testing.T) {
	for _, p := range meetings() {
		got := float64(separation(p))
		want := max(0, bodyOf(p.a, p.ta).trueDistance(bodyOf(p.b, p.tb))-float64(p.a.Radius+p.b.Radius))
		// A point on a long edge is off by some units along the edge, which makes a short distance longer.
		if got < want-2 || got > want+25 || want == 0 && got > 25 {
			t.Fatalf("Separation%v = %v, but the distance is %v", p, got, want)
		}
	}
}

// P17.1: where nothing is rounded, shapes overlap if no axis keeps their cores apart.
func TestOverlapIsTrue(t *testing.T) {
	counts := map[bool]int{}
	for _, p := range meetings() {
		if p.ta.Angle%quarter != 0 || p.tb.Angle%quarter != 0 {
			continue
		}
		cores := bodyOf(p.a, p.ta).overlaps(bodyOf(p.b, p.tb))
		counts[cores]++
		if cores && !overlap(p) {
			t.Fatalf("Overlap%v = false, but the cores have a common point", p)
		}
		if nearest := bodyOf(p.a, p.ta).trueDistance(bodyOf(p.b, p.tb)); overlap(p) && nearest >= float64(p.a.Radius+p.b.Radius+2) {
			t.Fatalf("Overlap%v = true, but the distance of the cores is %v", p, nearest)
		}
	}
	if counts[true] < 1000 || counts[false] < 1000 {
		t.Errorf("the cores of %d pairs overlap and those of %d do not", counts[true], counts[false])
	}
}

// quarterTurned is the pair turned by a right angle about the origin.
func quarterTurned(p pair) pair {
	p.ta = at(-p.ta.Position.Y, p.ta.Position.X, p.ta.Angle+quarter)
	p.tb = at(-p.tb.Position.Y, p.tb.Position.X, p.tb.Angle+quarter)
	return p
}

// carried is the pair moved by shift.
func carried(p pair, shift api.Vec) pair {
	p.ta.Position, p.tb.Position = plus(p.ta.Position, shift), plus(p.tb.Position, shift)
	return p
}

// P17.1: moving both shapes, or turning both by a right angle, does not change their distance by a bit, as rounding treats all four directions alike.
func TestSeparationStaysTheSame(t *testing.T) {
	count := 0
	for _, p := range meetings() {
		want, shift := separation(p), vec(123456, -98765)
		if got := separation(carried(p, shift)); got != want {
			t.Fatalf("Separation%v = %d, but moved by %v %d", p, want, shift, got)
		}
		if p.ta.Angle%quarter != 0 || p.tb.Angle%quarter != 0 {
			continue
		}
		count++
		if got := separation(quarterTurned(p)); got != want {
			t.Fatalf("Separation%v = %d, but turned %d", p, want, got)
		}
	}
	if count < 1000 {
		t.Errorf("only %d pairs were turned", count)
	}
}

// P17.2
func TestToPointOfACircle(t *testing.T) {
	c := disc(one, 2*one, 0)
	checkPoints(t, []pointRow{
		// The center, inside, at the distance of the radius, and beyond it.
		{to(c, 2*one, 0), 0},
		{to(c, 2*one+half, half), 0},
		{to(c, 3*one-1, 0), 0},
		{to(c, 3*one, 0), 0},
		{to(c, 3*one+1, 0), 1},
		{to(c, 2*one, -one), 0},
		{to(c, 2*one, -one-1), 1},
		{to(c, one, 0), 0},
		{to(c, one-1, 0), 1},
		{to(c, 5*one, 4*one), 4 * one},
		{to(c, -one, -4*one), 4 * one},
		// Rounded down.
		{to(c, 3*one, 1), 0},
		{to(c, 3*one, 363), 1},
		{to(c, 3*one, 362), 0},
		{to(c, 3*one, one), 27145},
		// Turned.
		{aimed{c, at(0, 0, quarter), vec(0, 2*one)}, 0},
		{aimed{c, at(0, 0, quarter), vec(0, 4*one)}, one},
		{aimed{c, at(one, 0, -quarter), vec(one, 2*one)}, 3 * one},
		{aimed{c, at(-2*one, 0, 0), vec(one, 0)}, 0},
	})
}

// P17.2
func TestToPointOfACapsule(t *testing.T) {
	b, steep := bar(), whole(pill(half, 0, 0, 3, 4))
	checkPoints(t, []pointRow{
		// On the axis and its ends.
		{to(b, 0, 0), 0},
		{to(b, half, 0), 0},
		{to(b, one, 0), 0},
		{to(b, -one, 0), 0},
		// Beside the axis: inside, at the distance of the radius, and beyond it.
		{to(b, half, fourth-1), 0},
		{to(b, half, fourth), 0},
		{to(b, half, fourth+1), 1},
		{to(b, -half, -fourth), 0},
		{to(b, -half, -fourth-1), 1},
		{to(b, one, 3*one), 11 * fourth},
		// Beside an end.
		{to(b, 5*fourth-1, 0), 0},
		{to(b, 5*fourth, 0), 0},
		{to(b, 5*fourth+1, 0), 1},
		{to(b, -5*fourth-1, 0), 1},
		{to(b, -5*fourth, 0), 0},
		{to(b, 4*one, 4*one), 19 * fourth},
		{to(b, -4*one, -4*one), 19 * fourth},
		{to(b, 5*fourth, fourth), 6786},
		// A slanted axis.
		{to(steep, 4*one, -3*one), 9 * half},
		{to(steep, 2*one, one), half},
		{to(steep, 6*one, 8*one), 9 * half},
		{to(steep, 3*half, 2*one), 0},
		// Turned.
		{aimed{b, at(0, 0, quarter), vec(one, half)}, 3 * fourth},
		{aimed{b, at(0, 0, quarter), vec(0, 2*one)}, 3 * fourth},
		{aimed{b, at(9*one, 0, -quarter), vec(9*one, -one)}, 0},
	})
}

// P17.2
func TestToPointOfAPolygon(t *testing.T) {
	s, d := block(), diamond()
	checkPoints(t, []pointRow{
		// Inside.
		{to(s, 2*one, 2*one), 0},
		{to(s, 1, 1), 0},
		{to(s, 4*one-1, 3*one), 0},
		{to(d, 0, 0), 0},
		{to(ring(), 3*one, 3*one), 0},
		// On an edge and at a corner.
		{to(s, 2*one, 0), 0},
		{to(s, 4*one, 1), 0},
		{to(s, 3*one, 4*one), 0},
		{to(s, 0, 2*one), 0},
		{to(s, 0, 0), 0},
		{to(s, 4*one, 0), 0},
		{to(s, 4*one, 4*one), 0},
		{to(s, 0, 4*one), 0},
		{to(d, half, half), 0},
		// Beside each edge.
		{to(s, 2*one, -1), 1},
		{to(s, 4*one+1, 2*one), 1},
		{to(s, 2*one, 4*one+1), 1},
		{to(s, -1, 2*one), 1},
		{to(s, one, -3*one), 3 * one},
		{to(s, 9*one, 0), 5 * one},
		{to(s, 4*one, 6*one), 2 * one},
		{to(s, -one, 3*one), one},
		// Beside a corner, rounded down.
		{to(s, 7*one, 8*one), 5 * one},
		{to(s, -3*one, -4*one), 5 * one},
		{to(s, 8*one, -3*one), 5 * one},
		{to(s, -4*one, 7*one), 5 * one},
		{to(s, 4*one+1, 4*one+1), 1},
		{to(s, -2, -2), 2},
		// Beside a slanted edge.
		{to(d, one, one), 46340},
		{to(d, -one, half), 23170},
		// On the line of an edge.
		{to(s, 6*one, 0), 2 * one},
		{to(s, 0, -one), one},
		// Turned.
		{aimed{s, at(0, 0, quarter), vec(-2*one, 2*one)}, 0},
		{aimed{s, at(0, 0, quarter), vec(2*one, 2*one)}, 2 * one},
		{aimed{s, at(one, one, -2*quarter), vec(2*one, 0)}, one},
		{aimed{d, at(0, 0, quarter/2), vec(one, 0)}, 65536 - 46341},
	})
}

// P17.2: the point is saturated, and distances are before the radius is taken from them.
func TestToPointFarAway(t *testing.T) {
	s, c, b := block(), disc(one, 0, 0), bar()
	checkPoints(t, []pointRow{
		{aimed{c, at(most, 0, 0), vec(high, 0)}, 0},
		{aimed{c, at(most, most, 0), vec(far, high)}, 0},
		{aimed{c, at(-most, 0, 0), vec(low, 0)}, 0},
		{aimed{c, at(-most, 0, 0), vec(low, 3*one)}, 2 * one},
		{aimed{c, at(most-3*one, 0, 0), vec(most+5*one, 0)}, 2 * one},
		{aimed{c, at(high, low, 0), vec(most, -most-1)}, 0},
		{aimed{c, at(0, 0, 0), vec(high, high)}, most - one},
		{aimed{c, at(0, 0, 0), vec(low, 0)}, most - one},
		{aimed{c, at(-most, 0, 0), vec(high, 0)}, most - one},
		{aimed{c, at(one, 0, 0), vec(far, 0)}, most - 2*one},
		{aimed{b, at(most, 0, 0), vec(high, 0)}, 0},
		{aimed{b, at(most-3*one, 0, 0), vec(high, 0)}, 7 * fourth},
		{aimed{b, at(most, 0, 0), vec(far, -2*one)}, 7 * fourth},
		{aimed{b, at(0, 0, 0), vec(low, low)}, most - fourth},
		{aimed{s, at(most-4*one, 0, 0), vec(high, 2*one)}, 0},
		{aimed{s, at(most-5*one, 0, 0), vec(high, 2*one)}, one},
		{aimed{s, at(-most, 0, 0), vec(-far, one)}, 0},
		{aimed{s, at(0, 0, 0), vec(high, low)}, most},
		{aimed{s, at(0, 0, 0), vec(high, one)}, most - 4*one},
		// A polygon that shrinks to a segment contains every point on its line, and one that shrinks to a point contains every point.
		{aimed{s, at(most, 0, 0), vec(far, 90*one)}, 0},
		{aimed{s, at(most, 0, 0), vec(most-1, 9*one)}, 5 * one},
		{aimed{s, at(most, 0, 0), vec(most-2*one, one)}, 2 * one},
		{aimed{s, at(high, far, 0), vec(0, 0)}, 0},
		{aimed{s, at(high, far, 0), vec(low, high)}, 0},
	})
}

// P17.2
func TestToPointOfInvalidShapes(t *testing.T) {
	for _, bad := range invalidShapes() {
		for _, place := range []api.Transform{{}, at(one, -one, 1), at(high, low, far)} {
			for _, v := range []api.Vec{{}, vec(one, one), vec(4*one, 4*one), vec(high, low)} {
				if got := toPoint(aimed{bad, place, v}); got != most {
					t.Errorf("ToPoint(%v, %v, %v) = %d, want %d", bad, place, v, got, most)
				}
			}
		}
	}
}

// P17.2
func TestToPointOfSamples(t *testing.T) {
	counts := map[int]int{}
	for _, a := range targets() {
		got, want := toPoint(a), wantToPoint(a)
		if got != want {
			t.Fatalf("ToPoint%v = %d, want %d", a, got, want)
		}
		counts[min(2, got)]++
	}
	for d := range 3 {
		if counts[d] < 500 {
			t.Errorf("only %d points are at the distance %d", counts[d], d)
		}
	}
}

// P17.2: a shape that contains the point is at the distance 0, a circle or a capsule only then.
func TestToPointAndContainsPoint(t *testing.T) {
	for _, a := range targets() {
		contains := shape.ContainsPoint(a.s, a.t, a.v)
		if got := toPoint(a); contains && got != 0 || got == 0 && !contains && a.s.Kind != api.Polygon {
			t.Fatalf("ToPoint%v = %d, but ContainsPoint = %v", a, got, contains)
		}
	}
}

// P17.1, P17.2: a circle is as far from a shape as its center, less its radius.
func TestToPointAndSeparation(t *testing.T) {
	for _, a := range targets() {
		if shape.Validate(a.s) != api.OK {
			continue
		}
		radius := api.MinRadius + (a.v.X&0xffff+a.v.Y&0xffff)/2
		p := pair{a.s, a.t, disc(radius, 0, 0), at(a.v.X, a.v.Y, 0)}
		if got, want := separation(p), max(0, toPoint(a)-radius); got != want {
			t.Fatalf("Separation%v = %d, but the distance to the center is %d", p, got, want)
		}
	}
}

// P17.1, P17.2: shapes stay as they are, with what lies behind the length of their vertices.
func TestShapesStayAsTheyAre(t *testing.T) {
	behind := path(5, 6, 7, 8)
	for _, a := range append(invalidShapes(), disc(one, 0, 0), bar(), block(), diamond(), ring()) {
		for _, b := range append(invalidShapes(), disc(one, 0, 0), bar(), block(), diamond(), ring()) {
			p := pair{a, at(5, 6, 7), b, at(one, -one, quarter)}
			first, second := slices.Concat(a.Vertices, behind), slices.Concat(b.Vertices, behind)
			p.a.Vertices, p.b.Vertices = first[:len(a.Vertices)], second[:len(b.Vertices)]
			v := vec(one, one)
			for name, call := range map[string]func(){
				"Separation": func() { separation(p) },
				"Overlap":    func() { overlap(p) },
				"ToPoint":    func() { toPoint(aimed{p.a, p.ta, v}) },
			} {
				call()
				if !slices.Equal(first, slices.Concat(a.Vertices, behind)) || !slices.Equal(second, slices.Concat(b.Vertices, behind)) {
					t.Fatalf("%s%v changes the vertices to %v and %v", name, p, first, second)
				}
			}
		}
	}
}
