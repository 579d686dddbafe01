package manifold_test

import (
	"math"
	"slices"
	"testing"

	"carom/api"
	"carom/manifold"
	"carom/shape"
)

const (
	one     = api.One
	half    = api.One / 2
	fourth  = api.One / 4
	margin  = api.ContactMargin
	limit   = api.MaxCoordinate
	most    = api.MaxValue
	quarter = api.HalfPi
	world   = api.WorldLimit
	far     = 1 << 40
	low     = math.MinInt
	high    = math.MaxInt
)

type core = []api.Vec

// pair holds the arguments of Collide.
type pair struct {
	a  api.Shape
	ta api.Transform
	b  api.Shape
	tb api.Transform
}

// answer holds the results of Collide.
type answer struct {
	m  api.Manifold
	ok bool
}

// row is a row of a table: the arguments and the results that the chapter asks for.
type row struct {
	args pair
	want answer
}

// none is the answer for shapes that do not touch.
var none = answer{}

func vec(x, y int) api.Vec {
	return api.Vec{X: x, Y: y}
}

func plus(a, b api.Vec) api.Vec {
	return vec(a.X+b.X, a.Y+b.Y)
}

// path makes vertices of pairs of coordinates.
func path(coordinates ...int) core {
	var list core
	for i := 0; i+1 < len(coordinates); i += 2 {
		list = append(list, vec(coordinates[i], coordinates[i+1]))
	}
	return list
}

func at(x, y, angle int) api.Transform {
	return api.Transform{Position: vec(x, y), Angle: angle}
}

func disc(radius, x, y int) api.Shape {
	return api.Shape{Kind: api.Circle, Radius: radius, Vertices: path(x, y)}
}

func pill(radius int, ends ...int) api.Shape {
	return api.Shape{Kind: api.Capsule, Radius: radius, Vertices: path(ends...)}
}

func poly(coordinates ...int) api.Shape {
	return api.Shape{Kind: api.Polygon, Vertices: path(coordinates...)}
}

// whole is the shape with coordinates that were given in whole units.
func whole(s api.Shape) api.Shape {
	for i, v := range s.Vertices {
		s.Vertices[i] = vec(v.X*one, v.Y*one)
	}
	return s
}

// block is the square with side 4 and a corner at the origin; its edges 0 to 3 are the lower, the right, the upper and the left one.
func block() api.Shape {
	return whole(poly(0, 0, 4, 0, 4, 4, 0, 4))
}

// diamond is a square with corners to the left, below, to the right and above.
func diamond() api.Shape {
	return whole(poly(-1, 0, 0, -1, 1, 0, 0, 1))
}

// bar is the capsule from (-1, 0) to (1, 0).
func bar() api.Shape {
	return whole(pill(fourth, -1, 0, 1, 0))
}

// both puts two shapes where their local coordinates say.
func both(a, b api.Shape) pair {
	return pair{a: a, b: b}
}

// apart moves the second shape by (x, y).
func apart(a, b api.Shape, x, y int) pair {
	return pair{a: a, b: b, tb: at(x, y, 0)}
}

// exchanged is the pair in the other order.
func (p pair) exchanged() pair {
	return pair{p.b, p.tb, p.a, p.ta}
}

// kinds are the kinds of both shapes.
func (p pair) kinds() [2]api.ShapeKind {
	return [2]api.ShapeKind{p.a.Kind, p.b.Kind}
}

func point(x, y, separation, id int) api.ContactPoint {
	return api.ContactPoint{Point: vec(x, y), Separation: separation, ID: id}
}

// touching is the answer with the normal (x, y).
func touching(x, y int, points ...api.ContactPoint) answer {
	return answer{api.Manifold{Normal: vec(x, y), Points: points}, true}
}

func collide(p pair) answer {
	m, ok := manifold.Collide(p.a, p.ta, p.b, p.tb)
	return answer{m, ok}
}

func flip(a answer) answer {
	return answer{manifold.Flip(a.m), a.ok}
}

// same tells whether two answers are equal in all fields.
func same(a, b answer) bool {
	return a.ok == b.ok && a.m.Normal == b.m.Normal && slices.Equal(a.m.Points, b.m.Points)
}

// check holds Collide and the oracle against the rows.
func check(t *testing.T, rows []row) {
	t.Helper()
	for _, r := range rows {
		if got := collide(r.args); !same(got, r.want) {
			t.Errorf("Collide%v = %v, want %v", r.args, got, r.want)
		}
		if expected := wantCollide(r.args); !same(expected, r.want) {
			t.Errorf("Collide%v: the oracle says %v, the row %v", r.args, expected, r.want)
		}
	}
}

// P16.1 to P16.4
func TestCollideOfSamples(t *testing.T) {
	for _, p := range pairs() {
		if got, want := collide(p), wantCollide(p); !same(got, want) {
			t.Fatalf("Collide%v = %v, want %v", p, got, want)
		}
	}
}

// P16.2
func TestCollideOfCircles(t *testing.T) {
	small := disc(one, 0, 0)
	check(t, []row{
		// The chapter's example.
		{apart(small, small, one, 0), touching(one, 0, point(32768, 0, -one, 0))},
		// Apart.
		{apart(small, small, 3*one, 0), none},
		{apart(small, small, 0, -9*one), none},
		{apart(small, small, 2*one, 2*one), none},
		// At the margin.
		{apart(small, small, 2*one+margin-1, 0), touching(one, 0, point(one+512, 0, margin-1, 0))},
		{apart(small, small, 2*one+margin, 0), touching(one, 0, point(one+512, 0, margin, 0))},
		{apart(small, small, 2*one+margin+1, 0), none},
		{apart(small, small, 0, -2*one-margin), touching(0, -one, point(0, -one-512, margin, 0))},
		{apart(small, small, 0, -2*one-margin-1), none},
		// Touching, and apart or overlapping by so little that half is rounded, away from zero.
		{apart(small, small, 2*one, 0), touching(one, 0, point(one, 0, 0, 0))},
		{apart(small, small, 2*one+1, 0), touching(one, 0, point(one+1, 0, 1, 0))},
		{apart(small, small, 2*one+2, 0), touching(one, 0, point(one+1, 0, 2, 0))},
		{apart(small, small, 2*one+3, 0), touching(one, 0, point(one+2, 0, 3, 0))},
		{apart(small, small, 2*one-1, 0), touching(one, 0, point(one-1, 0, -1, 0))},
		{apart(small, small, 2*one-2, 0), touching(one, 0, point(one-1, 0, -2, 0))},
		{apart(small, small, 2*one-3, 0), touching(one, 0, point(one-2, 0, -3, 0))},
		{apart(small, small, -2*one+3, 0), touching(-one, 0, point(-one+2, 0, -3, 0))},
		// One center.
		{apart(small, small, 0, 0), touching(0, one, point(0, 0, -2*one, 0))},
		{both(disc(one, 5, 6), disc(2*one, 5, 6)), touching(0, one, point(5, 6-half, -3*one, 0))},
		{both(disc(2*one, 5, 6), disc(one, 5, 6)), touching(0, one, point(5, 6+half, -3*one, 0))},
		{both(disc(one, 5, 6), disc(one+1, 5, 6)), touching(0, one, point(5, 5, -2*one-1, 0))},
		// Different radii, in any direction.
		{apart(disc(2*one, 0, 0), disc(3*one, 0, 0), 3*one, 4*one), touching(39322, 52429, point(78644, 104858, 0, 0))},
		{apart(disc(3*one, 0, 0), disc(2*one, 0, 0), -3*one, 4*one), touching(-39322, 52429, point(-117966, 157287, 0, 0))},
		{apart(disc(4*one, 0, 0), disc(one, 0, 0), -3*one, -4*one), touching(-39322, -52429, point(-157288, -209716, 0, 0))},
		{apart(disc(4*one, 0, 0), disc(2*one, 0, 0), -3*one, -4*one), touching(-39322, -52429, point(-137627, -183502, -one, 0))},
		{both(disc(one, 9, 7), disc(one, 9, 7-2*one)), touching(0, -one, point(9, 7-one, 0, 0))},
		// Centers that are a few units apart: lengths, normals and points are rounded.
		{both(disc(2048, 0, 0), disc(2048, 3, 4)), touching(39322, 52429, point(1, 2, -4091, 0))},
		{both(disc(2048, 0, 0), disc(2048, 1, 1)), touching(one, one, point(0, 0, -4095, 0))},
		{both(disc(2048, 0, 0), disc(2048, 2, 1)), touching(one, half, point(1, 1, -4094, 0))},
		{both(disc(2048, 0, 0), disc(2048, -2, -1)), touching(-one, -half, point(-1, -1, -4094, 0))},
		{both(disc(2048, 0, 0), disc(2048, 1, 0)), touching(one, 0, point(0, 0, -4095, 0))},
		{both(disc(2049, 0, 0), disc(2048, 0, 1)), touching(0, one, point(0, 1, -4096, 0))},
		// Turned: a circle about its own center stays as it is.
		{pair{small, at(0, 0, quarter), small, at(one, 0, -1)}, touching(one, 0, point(half, 0, -one, 0))},
		{pair{disc(one, one, 0), at(0, 0, quarter), disc(one, one, 0), at(0, 0, -quarter)}, touching(0, -one, point(0, 0, 0, 0))},
	})
}

// P16.2
func TestCollideOfCirclesAndCapsules(t *testing.T) {
	b, small, steep := bar(), disc(one, 0, 0), whole(pill(half, 0, 0, 3, 4))
	check(t, []row{
		// Beside the axis.
		{apart(b, small, 0, one), touching(0, one, point(0, 8192, -fourth, 0))},
		{apart(small, b, 0, -one), touching(0, -one, point(0, -one+8192, -fourth, 0))},
		{apart(small, b, 0, one), touching(0, one, point(0, one-8192, -fourth, 0))},
		{apart(b, small, half, -5*fourth), touching(0, -one, point(half, -fourth, 0, 0))},
		{apart(b, small, -half, 5*fourth+margin), touching(0, one, point(-half, fourth+512, margin, 0))},
		{apart(b, small, -half, 5*fourth+margin+1), none},
		{apart(small, b, -half, 5*fourth+margin), touching(0, one, point(0, one+512, margin, 0))},
		{apart(small, b, -half, 5*fourth+margin+1), none},
		{apart(b, small, one, 5*fourth-7), touching(0, one, point(one, fourth-4, -7, 0))},
		{apart(b, small, 0, 3*one), none},
		// Beside an end.
		{apart(b, small, 9*fourth, 0), touching(one, 0, point(5*fourth, 0, 0, 0))},
		{apart(b, small, -9*fourth-5, 0), touching(-one, 0, point(-5*fourth-3, 0, 5, 0))},
		{apart(b, small, 9*fourth+margin, 0), touching(one, 0, point(5*fourth+512, 0, margin, 0))},
		{apart(b, small, 9*fourth+margin+1, 0), none},
		{apart(small, b, 9*fourth+margin, 0), touching(one, 0, point(one+512, 0, margin, 0))},
		{apart(small, b, 9*fourth+margin+1, 0), none},
		{apart(b, disc(19*fourth, 0, 0), 4*one, 4*one), touching(39322, 52429, point(75367, 13107, 0, 0))},
		{apart(disc(19*fourth, 0, 0), b, 4*one, 4*one), touching(39322, 52429, point(186780, 249038, 0, 0))},
		{apart(b, small, 5*one, 0), none},
		// The center on the axis: the segments are on one line, so that the first point of the first shape is taken.
		{apart(b, small, half, 0), touching(0, one, point(-one, -24576, -5*fourth, 0))},
		{apart(b, small, one, 0), touching(0, one, point(-one, -24576, -5*fourth, 0))},
		{apart(b, small, -one, 0), touching(0, one, point(-one, -24576, -5*fourth, 0))},
		{apart(small, b, half, 0), touching(0, one, point(0, 24576, -5*fourth, 0))},
		{apart(small, b, one, 0), touching(0, one, point(0, 24576, -5*fourth, 0))},
		{apart(b, disc(fourth, 0, 0), 0, 0), touching(0, one, point(-one, 0, -half, 0))},
		// A slanted axis.
		{apart(steep, disc(2*one, 0, 0), 4*one, -3*one), none},
		{apart(steep, disc(9*half, 0, 0), 4*one, -3*one), touching(52429, -39322, point(26215, -19661, 0, 0))},
		{apart(disc(9*half, 0, 0), steep, -4*one, 3*one), touching(-52429, 39322, point(-235931, 176949, 0, 0))},
		// Turned.
		{pair{b, at(0, 0, quarter), small, at(one, half, 0)}, touching(one, 0, point(8192, half, -fourth, 0))},
		{pair{small, at(one, half, 0), b, at(0, 0, quarter)}, touching(-one, 0, point(8192, half, -fourth, 0))},
	})
}

// P16.2
func TestCollideOfCapsules(t *testing.T) {
	b := bar()
	thick := whole(pill(half, 0, -1, 0, 1))
	check(t, []row{
		// Crossing: the crossing is the point of both.
		{both(b, thick), touching(0, one, point(0, -8192, -3*fourth, 0))},
		{both(thick, b), touching(0, one, point(0, 8192, -3*fourth, 0))},
		{apart(b, thick, half, half), touching(0, one, point(half, -8192, -3*fourth, 0))},
		// The way to the crossing is rounded.
		{apart(b, thick, -7, 9), touching(0, one, point(-6, -8192, -3*fourth, 0))},
		{both(whole(pill(one, 0, 0, 3, 3)), whole(pill(one, 0, 2, 3, -1))), touching(0, one, point(65535, 65535, -2*one, 0))},
		// Touching at an end, or with the end of one on the other.
		{both(b, whole(pill(fourth, 1, 0, 3, 4))), touching(0, one, point(one, 0, -half, 0))},
		{both(b, whole(pill(fourth, -3, 4, -1, 0))), touching(0, one, point(-one, 0, -half, 0))},
		{apart(b, thick, half, one), touching(0, one, point(half, -8192, -3*fourth, 0))},
		{apart(thick, b, one, half), touching(0, one, point(0, half+8192, -3*fourth, 0))},
		// Parallel: of several pairs of closest points the first one.
		{apart(b, b, 0, one), none},
		{apart(b, b, 0, half), touching(0, one, point(-one, fourth, 0, 0))},
		{apart(b, b, 0, -half), touching(0, -one, point(-one, -fourth, 0, 0))},
		{apart(b, b, 0, half+margin), touching(0, one, point(-one, fourth+512, margin, 0))},
		{apart(b, b, 0, half+margin+1), none},
		{apart(b, b, 0, half-9), touching(0, one, point(-one, fourth-5, -9, 0))},
		{apart(b, b, one, half), touching(0, one, point(one, fourth, 0, 0))},
		{apart(b, b, -one, half), touching(0, one, point(-one, fourth, 0, 0))},
		{apart(b, whole(pill(fourth, -8, 0, 8, 0)), 0, half), touching(0, one, point(-one, fourth, 0, 0))},
		{apart(whole(pill(fourth, -8, 0, 8, 0)), b, 0, half), touching(0, one, point(-one, fourth, 0, 0))},
		{apart(b, whole(pill(fourth, 1, 0, -1, 0)), 0, half), touching(0, one, point(-one, fourth, 0, 0))},
		{apart(b, b, 2*one, half), touching(0, one, point(one, fourth, 0, 0))},
		// On one line: end to end, and overlapping.
		{apart(b, b, 5*half, 0), touching(one, 0, point(5*fourth, 0, 0, 0))},
		{apart(b, b, -5*half, 0), touching(-one, 0, point(-5*fourth, 0, 0, 0))},
		{apart(b, b, 5*half+margin, 0), touching(one, 0, point(5*fourth+512, 0, margin, 0))},
		{apart(b, b, 5*half+margin+1, 0), none},
		{apart(b, b, 9*fourth, 0), touching(one, 0, point(5*fourth-8192, 0, -fourth, 0))},
		{apart(b, b, 2*one, 0), touching(0, one, point(-one, 0, -half, 0))},
		{apart(b, b, one, 0), touching(0, one, point(-one, 0, -half, 0))},
		{apart(b, b, 0, 0), touching(0, one, point(-one, 0, -half, 0))},
		{apart(b, b, -one, 0), touching(0, one, point(-one, 0, -half, 0))},
		// An end beside the other one, and beside its end.
		{apart(b, thick, half, 7*fourth), touching(0, one, point(half, fourth, 0, 0))},
		{apart(b, thick, half, 7*fourth+margin+1), none},
		{apart(thick, b, 7*fourth, half), touching(one, 0, point(half, half, 0, 0))},
		{apart(b, whole(pill(19*fourth, 0, 0, 9, 9)), 4*one, 4*one), touching(39322, 52429, point(75367, 13107, 0, 0))},
		{apart(b, whole(pill(19*fourth, 9, 9, 0, 0)), 4*one, 4*one), touching(39322, 52429, point(75367, 13107, 0, 0))},
		{apart(b, b, 3*one, 3*one), none},
		// Turned.
		{pair{b, at(0, 0, quarter), b, at(half, 0, -quarter)}, touching(one, 0, point(fourth, -one, 0, 0))},
		{pair{b, at(0, 0, 0), b, at(half, 0, quarter)}, touching(0, one, point(half, 0, -half, 0))},
	})
}

// P16.3
func TestCollideOfAPolygonAndACircle(t *testing.T) {
	s, small := block(), disc(one, 0, 0)
	check(t, []row{
		// Beside each edge.
		{apart(s, small, 2*one, -one), touching(0, -one, point(2*one, 0, 0, 0))},
		{apart(s, small, 5*one, 2*one), touching(one, 0, point(4*one, 2*one, 0, 0))},
		{apart(s, small, 2*one, 5*one), touching(0, one, point(2*one, 4*one, 0, 0))},
		{apart(s, small, -one, 2*one), touching(-one, 0, point(0, 2*one, 0, 0))},
		{apart(s, small, 4*one, 5*one), touching(0, one, point(4*one, 4*one, 0, 0))},
		// At the margin.
		{apart(s, small, 2*one, 5*one+margin), touching(0, one, point(2*one, 4*one+512, margin, 0))},
		{apart(s, small, 2*one, 5*one+margin+1), none},
		{apart(s, small, -one-margin, 2*one), touching(-one, 0, point(-512, 2*one, margin, 0))},
		{apart(s, small, -one-margin-1, 2*one), none},
		{apart(s, small, 2*one, 9*one), none},
		// Half is rounded, away from zero.
		{apart(s, small, 2*one, 5*one+1), touching(0, one, point(2*one, 4*one, 1, 0))},
		{apart(s, small, 2*one, 5*one+3), touching(0, one, point(2*one, 4*one+1, 3, 0))},
		{apart(s, small, 2*one, 5*one-1), touching(0, one, point(2*one, 4*one-1, -1, 0))},
		{apart(s, small, 2*one, 5*one-2), touching(0, one, point(2*one, 4*one-1, -2, 0))},
		{apart(s, small, 2*one, 5*one-3), touching(0, one, point(2*one, 4*one-2, -3, 0))},
		{apart(s, small, 5*one-3, 2*one), touching(one, 0, point(4*one-2, 2*one, -3, 0))},
		{apart(s, small, -one+3, 2*one), touching(-one, 0, point(2, 2*one, -3, 0))},
		// Closer.
		{apart(s, small, 2*one, 4*one+half), touching(0, one, point(2*one, 4*one-fourth, -half, 0))},
		{apart(s, small, 4*one+1, 2*one), touching(one, 0, point(4*one-half, 2*one, 1-one, 0))},
		// On an edge.
		{apart(s, small, 2*one, 4*one), touching(0, one, point(2*one, 4*one-half, -one, 0))},
		{apart(s, small, 0, one), touching(-one, 0, point(half, one, -one, 0))},
		// On a vertex: the first of its edges in the list.
		{apart(s, small, 0, 0), touching(0, -one, point(0, half, -one, 0))},
		{apart(s, small, 4*one, 0), touching(0, -one, point(4*one, half, -one, 0))},
		{apart(s, small, 4*one, 4*one), touching(one, 0, point(4*one-half, 4*one, -one, 0))},
		{apart(s, small, 0, 4*one), touching(0, one, point(0, 4*one-half, -one, 0))},
		// Inside.
		{apart(s, small, 2*one, 3*one), touching(0, one, point(2*one, 3*one, -2*one, 0))},
		{apart(s, small, 2*one, 3*one+half), touching(0, one, point(2*one, 3*one+fourth, -3*half, 0))},
		{apart(s, small, 3, one), touching(-one, 0, point(half+2, one, -one-3, 0))},
		{apart(s, small, one+half, 2*one), touching(-one, 0, point(one+fourth, 2*one, -5*half, 0))},
		// Inside at the same distance from two edges and from all of them.
		{apart(s, small, 3*one, 3*one), touching(one, 0, point(3*one, 3*one, -2*one, 0))},
		{apart(s, small, one, one), touching(0, -one, point(one, one, -2*one, 0))},
		{apart(s, small, one, 3*one), touching(0, one, point(one, 3*one, -2*one, 0))},
		{apart(s, small, 2*one, 2*one), touching(0, -one, point(2*one, 3*half, -3*one, 0))},
		// Beside a corner the distance from the corner counts, not the one from the edges.
		{apart(s, disc(5*one/8, 0, 0), 4*one+3*one/8, 4*one+half), touching(39322, 52429, point(4*one, 4*one, 0, 0))},
		{apart(s, disc(5*one/8-margin, 0, 0), 4*one+3*one/8, 4*one+half), touching(39322, 52429, point(4*one+307, 4*one+409, margin, 0))},
		{apart(s, disc(5*one/8-margin-1, 0, 0), 4*one+3*one/8, 4*one+half), none},
		{apart(s, disc(5*one, 0, 0), -3*one, -4*one), touching(-39322, -52429, point(2, 1, 0, 0))},
		{apart(s, disc(5*one, 0, 0), 4*one+4*one, -3*one), touching(52429, -39322, point(4*one-1, 2, 0, 0))},
		{apart(s, disc(4*one+half, 0, 0), -3*one, -4*one), none},
		{apart(s, disc(one, 0, 0), 4*one+1, 4*one+1), touching(one, one, point(4*one-half, 4*one-half, 1-one, 0))},
		// Turned.
		{pair{s, at(0, 0, quarter), small, at(-5*one, one, 3)}, touching(-one, 0, point(-4*one, one, 0, 0))},
		{pair{s, at(0, 0, quarter), small, at(-one, 5*one, 3)}, touching(0, one, point(-one, 4*one, 0, 0))},
	})
}

// P16.3: where points are rounded, edges can be equally close with different points, and a center that is to the right of an edge can be a point of it.
func TestCollideWithRoundedEdges(t *testing.T) {
	ball := disc(2048, 0, 0)
	check(t, []row{
		// Both (2049, 790) of edge 0 and (2048, 791) of edge 1 are as close.
		{apart(poly(-2151, -2875, 2049, 790, -2018, 5777), ball, 2050, 792), touching(half, one, point(1537, -233, -2046, 0))},
		{apart(poly(2049, 790, -2018, 5777, -2151, -2875), ball, 2050, 792), touching(one, half, point(1025, 279, -2046, 0))},
		// The separation is 1, but the closest point is the center itself, so that the normal is that of the edge.
		{apart(poly(-4016, -5795, 3838, 4353, -1490, 2905), ball, 3030, 3308), touching(51828, -40112, point(2220, 3935, -2048, 0))},
		{apart(poly(-1490, 2905, -4016, -5795, 3838, 4353), ball, 3030, 3308), touching(51828, -40112, point(2220, 3935, -2048, 0))},
	})
}

// P16.3: the circle first and the polygon second.
func TestCollideOfACircleAndAPolygon(t *testing.T) {
	s, small := block(), disc(one, 0, 0)
	check(t, []row{
		{apart(small, s, -2*one, one), touching(0, one, point(0, one, 0, 0))},
		{apart(small, s, -2*one, one+margin), touching(0, one, point(0, one+512, margin, 0))},
		{apart(small, s, -2*one, one+margin+1), none},
		{apart(small, s, one-3, -2*one), touching(one, 0, point(one-1, 0, -3, 0))},
		{apart(small, s, -2*one, -3*one), touching(0, -one, point(0, 0, -2*one, 0))},
		{apart(small, s, -2*one, -2*one), touching(0, one, point(0, -half, -3*one, 0))},
		{apart(small, s, -4*one, -4*one), touching(-one, 0, point(-half, 0, -one, 0))},
		{apart(disc(5*one, 0, 0), s, 3*one, 4*one), touching(39322, 52429, point(3*one+2, 4*one+1, 0, 0))},
		{apart(small, s, 9*one, 0), none},
	})
	for _, p := range pairs() {
		if p.kinds() == [2]api.ShapeKind{api.Circle, api.Polygon} {
			if got, want := collide(p), flip(collide(p.exchanged())); !same(got, want) {
				t.Fatalf("Collide%v = %v, but flipped %v", p, got, want)
			}
		}
	}
}

// P16.4: edge against edge.
func TestCollideOfEdges(t *testing.T) {
	s := block()
	check(t, []row{
		// On each edge.
		{apart(s, s, 4*one, 0), touching(one, 0, point(4*one, 4*one, 0, 88), point(4*one, 0, 0, 89))},
		{apart(s, s, 0, -4*one), touching(0, -one, point(4*one, 0, 0, 16), point(0, 0, 0, 17))},
		{apart(s, s, 0, 4*one), touching(0, one, point(0, 4*one, 0, 128), point(4*one, 4*one, 0, 129))},
		{apart(s, s, -4*one, 0), touching(-one, 0, point(0, 0, 0, 200), point(0, 4*one, 0, 201))},
		// Apart, at the margin and beyond it.
		{apart(s, s, 4*one+margin-1, 0), touching(one, 0, point(4*one+511, 4*one, margin-1, 88), point(4*one+511, 0, margin-1, 89))},
		{apart(s, s, 4*one+margin, 0), touching(one, 0, point(4*one+512, 4*one, margin, 88), point(4*one+512, 0, margin, 89))},
		{apart(s, s, 4*one+margin+1, 0), none},
		{apart(s, s, 0, -4*one-margin), touching(0, -one, point(4*one, -512, margin, 16), point(0, -512, margin, 17))},
		{apart(s, s, 0, -4*one-margin-1), none},
		{apart(s, s, 9*one, 0), none},
		{apart(s, s, low, 0), none},
		// Half is rounded, away from zero.
		{apart(s, s, 4*one+1, 0), touching(one, 0, point(4*one, 4*one, 1, 88), point(4*one, 0, 1, 89))},
		{apart(s, s, 4*one+3, 0), touching(one, 0, point(4*one+1, 4*one, 3, 88), point(4*one+1, 0, 3, 89))},
		{apart(s, s, 4*one-1, 0), touching(one, 0, point(4*one, 4*one, -1, 88), point(4*one, 0, -1, 89))},
		{apart(s, s, 4*one-3, 0), touching(one, 0, point(4*one-1, 4*one, -3, 88), point(4*one-1, 0, -3, 89))},
		// Overlapping.
		{apart(s, s, 3*one, 0), touching(one, 0, point(3*one+half, 4*one, -one, 88), point(3*one+half, 0, -one, 89))},
		{apart(s, s, -3*one, 0), touching(-one, 0, point(half, 0, -one, 200), point(half, 4*one, -one, 201))},
		{apart(s, s, 0, 0), touching(0, -one, point(4*one, 2*one, -4*one, 16), point(0, 2*one, -4*one, 17))},
		{both(s, whole(poly(1, 1, 3, 1, 3, 3, 1, 3))), touching(0, -one, point(3*one, 3*half, -3*one, 16), point(one, 3*half, -3*one, 17))},
		// Clipped at the start, at the end, and at both.
		{apart(s, s, 4*one, one), touching(one, 0, point(4*one, 4*one, 0, 88), point(4*one, one, 0, 89))},
		{apart(s, s, 4*one, -one), touching(one, 0, point(4*one, 3*one, 0, 88), point(4*one, 0, 0, 89))},
		{both(s, whole(poly(4, -4, 8, -4, 8, 12, 4, 12))), touching(one, 0, point(4*one, 4*one, 0, 88), point(4*one, 0, 0, 89))},
		{both(s, whole(poly(4, 1, 8, 1, 8, 3, 4, 3))), touching(one, 0, point(4*one, 3*one, 0, 88), point(4*one, one, 0, 89))},
		{apart(s, s, -one, 4*one-half), touching(0, one, point(0, 4*one-fourth, -half, 128), point(3*one, 4*one-fourth, -half, 129))},
		// Corner to corner both points are the same one.
		{apart(s, s, 4*one, 4*one), touching(one, 0, point(4*one, 4*one, 0, 88), point(4*one, 4*one, 0, 89))},
		{apart(s, s, 4*one+1, 4*one), touching(one, 0, point(4*one, 4*one, 1, 88), point(4*one, 4*one, 1, 89))},
		{apart(s, s, 4*one, 4*one+1), touching(0, one, point(4*one, 4*one, 1, 128), point(4*one, 4*one, 1, 129))},
		// Beside the edge there is nothing to clip.
		{apart(s, s, 4*one+1, 4*one+1), none},
		{apart(s, s, 4*one+1000, 4*one+1000), none},
		// Turned.
		{pair{s, at(0, 0, quarter), s, at(4*one, 0, quarter)}, touching(one, 0, point(0, 4*one, 0, 16), point(0, 0, 0, 17))},
		{pair{s, at(0, 0, 0), s, at(4*one, 4*one, -quarter)}, touching(one, 0, point(4*one, 4*one, 0, 64), point(4*one, 0, 0, 65))},
	})
}

// P16.4: a corner against an edge.
func TestCollideOfCorners(t *testing.T) {
	s, d := block(), diamond()
	check(t, []row{
		{apart(s, d, 5*one, 2*one), touching(one, 0, point(4*one, 2*one, 0, 64))},
		{apart(s, d, 5*one+margin, 2*one), touching(one, 0, point(4*one+512, 2*one, margin, 64))},
		{apart(s, d, 5*one+margin+1, 2*one), none},
		{apart(s, d, 5*one-7, 2*one), touching(one, 0, point(4*one-3, 2*one, -7, 64))},
		{apart(s, d, 5*one+7, 2*one), touching(one, 0, point(4*one+3, 2*one, 7, 64))},
		// The second end is skipped by a unit, or just not.
		{both(s, poly(4*one+margin, one, 8*one, one, 8*one, 3*one, 4*one, 3*one)), touching(one, 0, point(4*one, 3*one, 0, 88), point(4*one+512, one, margin, 89))},
		{both(s, poly(4*one+margin+1, one, 8*one, one, 8*one, 3*one, 4*one, 3*one)), touching(one, 0, point(4*one, 3*one, 0, 88))},
		// And the first one.
		{both(s, poly(4*one, one, 8*one, one, 8*one, 3*one, 4*one+margin, 3*one)), touching(one, 0, point(4*one+512, 3*one, margin, 88), point(4*one, one, 0, 89))},
		{both(s, poly(4*one, one, 8*one, one, 8*one, 3*one, 4*one+margin+1, 3*one)), touching(one, 0, point(4*one, one, 0, 89))},
		// No vertex remains: the clipped edge keeps away.
		{both(s, poly(4*one+1000, 4*one+24, 5*one+1000, 3*one+24, 5*one+1000, 5*one+24)), touching(one, 0, point(4*one+512, 4*one, margin, 64))},
		{both(s, poly(4*one+1000, 4*one+25, 5*one+1000, 3*one+25, 5*one+1000, 5*one+25)), none},
		{both(s, poly(4*one+1000, 4*one+200, 5*one+1000, 3*one+200, 5*one+1000, 5*one+200)), none},
		// The first shape's separation exceeds the margin by a unit, the second's does not, nor does a vertex that is moved there by clipping.
		{both(poly(0, 0, -16464, -179417, 122292, -101686), poly(-17468, -179111, -1001, 304, -139758, -77425)), none},
		// An edge of the second shape.
		{pair{d, at(-one, 2*one, 0), s, at(0, 0, 0)}, touching(one, 0, point(0, 2*one, 0, 4297))},
		{pair{d, at(-one-margin, 2*one, 0), s, at(0, 0, 0)}, touching(one, 0, point(-512, 2*one, margin, 4297))},
		{pair{d, at(-one-margin-1, 2*one, 0), s, at(0, 0, 0)}, none},
		{pair{d, at(5*one, 2*one, 0), s, at(0, 0, 0)}, touching(-one, 0, point(4*one, 2*one, 0, 4096+64))},
		{pair{d, at(2*one, 5*one-9, 0), s, at(0, 0, 0)}, touching(0, -one, point(2*one, 4*one-4, -9, 4096+129))},
		// Turned by an eighth of a turn.
		{pair{s, at(0, 0, 0), d, at(5*one, 2*one, quarter/2)}, none},
		{pair{s, at(0, 0, 0), d, at(4*one+46341, 2*one, quarter/2)}, touching(one, 0, point(4*one, 2*one+46341, 0, 88), point(4*one, 2*one-46341, 0, 89))},
	})
}

// ring is an octagon; its edges 7 and 3 face the lower left and the upper right.
func ring() api.Shape {
	return whole(poly(2, 0, 4, 0, 6, 2, 6, 4, 4, 6, 2, 6, 0, 4, 0, 2))
}

// shifted is the polygon whose list begins with corner i.
func shifted(s api.Shape, i int) api.Shape {
	s.Vertices = slices.Concat(s.Vertices[i:], s.Vertices[:i])
	return s
}

// P16.4: IDs tell the edges apart, the last ones too.
func TestIDsOfTheLastEdges(t *testing.T) {
	r, u := ring(), 46341
	check(t, []row{
		{apart(r, r, -4*one, -4*one), touching(-u, -u, point(2*one, 0, 0, 472), point(0, 2*one, 0, 473))},
		{apart(r, r, 4*one, 4*one), touching(u, u, point(4*one, 6*one, 0, 64*3+8*7), point(6*one, 4*one, 0, 64*3+8*7+1))},
		{apart(r, shifted(r, 4), -4*one, -4*one), touching(-u, -u, point(2*one, 0, 0, 504), point(0, 2*one, 0, 505))},
		{apart(shifted(r, 4), r, 4*one, 4*one), touching(u, u, point(4*one, 6*one, 0, 504), point(6*one, 4*one, 0, 505))},
		// With the roles exchanged, the first end of an edge and the second one.
		{both(poly(-3*half, 3*one, -7*half, 3*one, -11*half, one, -11*half, -one, -7*half, -3*one, -3*half, -3*one, half, -one, one, one), r), touching(u, u, point(one, one, 0, 4600))},
		{both(poly(one, one, -one, half, -3*one, -3*half, -3*one, -7*half, -one, -11*half, one, -11*half, 3*one, -7*half, 3*one, -3*half), r), touching(u, u, point(one, one, 0, 4601))},
	})
}

// P16.4: the second shape's edge must be better by more than EdgeBias.
func TestEdgeBias(t *testing.T) {
	corner := 4*one + 64
	leaning := poly(0, 0, corner, 0, 4*one, 4*one, 0, 4*one)
	// The leaning edge keeps away by -sixteenths/4096, the upright one by 0.
	wall := func(sixteenths int) api.Shape {
		return poly(corner, -sixteenths, corner+4*one, -sixteenths, corner+4*one, 4*one, corner, 4*one)
	}
	bevelled := func(a, b int) api.Shape {
		return poly(4*one-b, 4*one+a, 4*one+a, 4*one-b, 8*one, 4*one-b, 8*one, 8*one, 4*one-b, 8*one)
	}
	first := touching(one, 16, point(262176, 4*one, 64, 88), point(corner, 0, 0, 89))
	second := touching(one, 0, point(corner, 0, 0, 4296), point(262176, 4*one, 64, 4297))
	check(t, []row{
		{both(leaning, wall(63*4096)), first},
		{both(leaning, wall(64*4096)), first},
		{both(leaning, wall(65*4096)), second},
		{both(leaning, wall(66*4096)), second},
		// In the other order the first shape's edge is the better one.
		{both(wall(63*4096), leaning), touching(-one, 0, point(corner, 0, 0, 200), point(262176, 4*one, 64, 201))},
		{both(wall(65*4096), leaning), touching(-one, 0, point(corner, 0, 0, 200), point(262176, 4*one, 64, 201))},
		// Better by 63, and by 65.
		{both(block(), bevelled(-3223, 8000)), touching(one, 0, point(258144, 262144, -8000, 96), point(258144, 258921, -8000, 97))},
		{both(block(), bevelled(-3222, 8000)), touching(46342, 46342, point(260533, 255753, -4555, 4104), point(259338, 259338, -7935, 4105))},
	})
}

// P16.4: polygons and capsules.
func TestCollideOfAPolygonAndACapsule(t *testing.T) {
	s, upright, level := block(), whole(pill(half, 0, -1, 0, 1)), whole(pill(half, -1, 0, 1, 0))
	check(t, []row{
		// Along an edge.
		{apart(s, upright, 9*half, 2*one), touching(one, 0, point(4*one, 3*one, 0, 72), point(4*one, one, 0, 73))},
		{apart(s, upright, -half, 2*one), touching(-one, 0, point(0, one, 0, 192), point(0, 3*one, 0, 193))},
		{apart(s, level, 2*one, 9*half), touching(0, one, point(one, 4*one, 0, 128), point(3*one, 4*one, 0, 129))},
		{apart(upright, s, -9*half, -one), touching(-one, 0, point(-half, -one, 0, 72), point(-half, one, 0, 73))},
		{apart(upright, s, half, -one), touching(one, 0, point(half, one, 0, 24), point(half, -one, 0, 25))},
		// At the margin.
		{apart(s, upright, 9*half+margin, 2*one), touching(one, 0, point(4*one+512, 3*one, margin, 72), point(4*one+512, one, margin, 73))},
		{apart(s, upright, 9*half+margin+1, 2*one), none},
		{apart(upright, s, half+margin, -one), touching(one, 0, point(half+512, one, margin, 24), point(half+512, -one, margin, 25))},
		{apart(upright, s, half+margin+1, -one), none},
		// Half is rounded, away from zero; the radius counts before.
		{apart(s, upright, 9*half+3, 2*one), touching(one, 0, point(4*one+1, 3*one, 3, 72), point(4*one+1, one, 3, 73))},
		{apart(s, upright, 9*half-3, 2*one), touching(one, 0, point(4*one-2, 3*one, -3, 72), point(4*one-2, one, -3, 73))},
		{apart(upright, s, half+3, -one), touching(one, 0, point(half+1, one, 3, 24), point(half+1, -one, 3, 25))},
		{apart(upright, s, half-3, -one), touching(one, 0, point(half-1, one, -3, 24), point(half-1, -one, -3, 25))},
		// Overlapping, and with the axis inside.
		{apart(s, upright, 4*one, 2*one), touching(one, 0, point(4*one-fourth, 3*one, -half, 72), point(4*one-fourth, one, -half, 73))},
		{apart(s, upright, 7*half, 2*one), touching(one, 0, point(7*half, 3*one, -one, 72), point(7*half, one, -one, 73))},
		{apart(s, level, 2*one, 2*one), touching(0, -one, point(3*one, 5*fourth, -5*half, 8), point(one, 5*fourth, -5*half, 9))},
		// Clipped at the start, at the end, and at both.
		{apart(s, upright, 9*half, 4*one), touching(one, 0, point(4*one, 4*one, 0, 72), point(4*one, 3*one, 0, 73))},
		{apart(s, upright, 9*half, 0), touching(one, 0, point(4*one, one, 0, 72), point(4*one, 0, 0, 73))},
		{apart(s, whole(pill(half, 0, -4, 0, 12)), 9*half, 0), touching(one, 0, point(4*one, 4*one, 0, 72), point(4*one, 0, 0, 73))},
		{apart(s, whole(pill(half, 0, -6, 0, 6)), 9*half, 0), touching(one, 0, point(4*one, 4*one-4, 0, 72), point(4*one, 2, 0, 73))},
		{apart(upright, s, half, -2*one), touching(one, 0, point(half, one, 0, 24), point(half, -one-1, 0, 25))},
		{apart(upright, s, half, -4*one), touching(one, 0, point(half, 0, 0, 24), point(half, -one, 0, 25))},
		{apart(upright, s, half, 0), touching(one, 0, point(half, one, 0, 24), point(half, 0, 0, 25))},
		// Beside the edge.
		{apart(s, upright, 9*half, 5*one+1), none},
		{apart(s, upright, 9*half, 5*one), touching(one, 0, point(4*one, 4*one, 0, 72), point(4*one, 4*one, 0, 73))},
		// End on.
		{apart(s, level, 11*half, 2*one), touching(one, 0, point(4*one, 2*one, 0, 64))},
		{apart(s, level, 11*half+margin, 2*one), touching(one, 0, point(4*one+512, 2*one, margin, 64))},
		{apart(s, level, 11*half+margin+1, 2*one), none},
		{apart(s, level, -3*half, 2*one), touching(-one, 0, point(0, 2*one, 0, 193))},
		{apart(level, s, -11*half, -2*one), touching(-one, 0, point(-3*half, 0, 0, 4096+64))},
		{apart(level, s, 3*half, -2*one), touching(one, 0, point(3*half, 0, 0, 4096+193))},
		{apart(level, s, 3*half+margin, -2*one), touching(one, 0, point(3*half+512, 0, margin, 4096+193))},
		{apart(level, s, 3*half+margin+1, -2*one), none},
		// With the roles exchanged, the radius of the capsule is the incident one.
		{apart(level, s, 3*half+3, -2*one), touching(one, 0, point(3*half+2, 0, 3, 4096+193))},
		{apart(level, s, 3*half-3, -2*one), touching(one, 0, point(3*half-1, 0, -3, 4096+193))},
		// The corner of a polygon against the side of a capsule.
		{apart(diamond(), upright, 3*half, 0), touching(one, 0, point(one, 0, 0, 4096+64+8+1))},
		{apart(upright, diamond(), 3*half, 0), touching(one, 0, point(half, 0, 0, 0))},
		{apart(upright, diamond(), 3*half+margin, 0), touching(one, 0, point(half+512, 0, margin, 0))},
		{apart(upright, diamond(), 3*half+margin+1, 0), none},
		{apart(upright, diamond(), -3*half, 0), touching(-one, 0, point(-half, 0, 0, 64+8+1))},
		// Turned.
		{pair{s, at(0, 0, 0), level, at(9*half, 2*one, quarter)}, touching(one, 0, point(4*one, 3*one, 0, 72), point(4*one, one, 0, 73))},
		{pair{s, at(0, 0, 0), level, at(9*half, 2*one, -quarter)}, touching(one, 0, point(4*one, 3*one, 0, 64), point(4*one, one, 0, 65))},
	})
}

// P16.1 to P16.4: far away sums saturate, and cores shrink, even to a single point that has no normals.
func TestCollideFarAway(t *testing.T) {
	s, small, b, tail := block(), disc(one, 0, 0), bar(), whole(pill(fourth, 0, 0, 2, 0))
	anywhere, corner := at(high, far, 0), at(most, most, low)
	check(t, []row{
		{pair{small, anywhere, small, corner}, touching(0, one, point(most, most, -2*one, 0))},
		{pair{disc(2*one, 0, 0), anywhere, small, corner}, touching(0, one, point(most, most, -3*one, 0))},
		{pair{small, at(low, low, 7), small, at(-far, -most, 0)}, touching(0, one, point(-most, -most, -2*one, 0))},
		{pair{small, at(most, 0, 0), small, at(-most, 0, 0)}, none},
		{pair{small, at(high, 0, 0), small, at(low, 0, 0)}, none},
		{pair{small, at(most, most, 0), small, at(-most, -most, 0)}, none},
		{pair{disc(8*one, 0, 0), corner, disc(8*one, 0, 0), at(most-15*one, most, 0)}, touching(-one, 0, point(most-15*half, most, -one, 0))},
		{pair{small, at(most-one, 0, 0), disc(7*one, 0, 0), at(high, 0, 0)}, touching(one, 0, point(most-one-5*half, 0, -7*one, 0))},
		{pair{disc(7*one, 0, 0), at(most-one, 0, 0), small, at(high, 0, 0)}, touching(one, 0, point(most, 0, -7*one, 0))},
		// Capsules that shrink to a point or to a half.
		{pair{tail, anywhere, tail, anywhere}, touching(0, one, point(most, most, -half, 0))},
		{pair{b, anywhere, tail, anywhere}, touching(0, one, point(most-one, most, -half, 0))},
		{pair{tail, anywhere, b, at(far, most-fourth, 0)}, touching(0, -one, point(most, most-8192, -fourth, 0))},
		{pair{b, at(most, 0, 0), b, at(most, 3*fourth, 0)}, none},
		{pair{b, at(most, 0, 0), b, at(high, half, 0)}, touching(0, one, point(most-one, fourth, 0, 0))},
		{pair{b, at(far, 0, 0), small, at(high, 5*fourth, 0)}, touching(0, one, point(most, fourth, 0, 0))},
		// Polygons that shrink to a segment.
		{pair{s, at(most, 0, 0), small, at(most-half, 2*one, 0)}, touching(-one, 0, point(most, 2*one, -half, 0))},
		{pair{s, at(most, 0, 0), small, at(most-one, 2*one, 0)}, touching(-one, 0, point(most, 2*one, 0, 0))},
		{pair{s, at(most, 0, 0), small, at(most, 5*one, 0)}, touching(0, 0, point(most, 5*one, -one, 0))},
		{pair{s, at(most, 0, 0), s, at(most-4*one, 0, 0)}, touching(0, 0, point(most-4*one, 0, 0, 0), point(most, 0, 0, 1))},
		{pair{s, at(most, 0, 0), s, at(most-4*one-margin, 0, 0)}, touching(-one, 0, point(most-512, 0, margin, 200), point(most-512, 4*one, margin, 201))},
		{pair{s, at(most-4*one, 0, 0), s, at(high, 0, 0)}, touching(one, 0, point(most, 4*one, 0, 88), point(most, 0, 0, 89))},
		{pair{s, at(most-2*one, 0, 0), s, at(most-4*one, 0, 0)}, touching(-one, 0, point(most-one, 0, -2*one, 200), point(most-one, 4*one, -2*one, 201))},
		// And to a point: it has the zero normal, and the separation 0 from everything.
		{pair{s, anywhere, small, corner}, touching(0, 0, point(most, most, -one, 0))},
		{pair{s, anywhere, small, at(0, 0, 0)}, touching(0, 0, point(0, 0, -one, 0))},
		{pair{small, at(-7, far, 0), s, anywhere}, touching(0, 0, point(-7, most, -one, 0))},
		{pair{s, anywhere, s, anywhere}, touching(0, 0, point(most, most, 0, 0), point(most, most, 0, 1))},
		{pair{s, anywhere, s, at(0, 0, 0)}, none},
		{pair{s, at(0, 0, 0), s, anywhere}, none},
		{pair{s, anywhere, tail, anywhere}, touching(0, 0, point(most, most, -fourth, 0), point(most, most, -fourth, 1))},
		{pair{tail, anywhere, s, anywhere}, touching(0, 0, point(most, most, -fourth, 0), point(most, most, -fourth, 1))},
		// At the limits of the world nothing is saturated.
		{pair{s, at(world-4*one, world, 0), s, at(world, world, 0)}, touching(one, 0, point(world, world+4*one, 0, 88), point(world, world, 0, 89))},
		{pair{small, at(-world, -world, 0), s, at(-world+one, -world, 0)}, touching(one, 0, point(-world+one, -world, 0, 0))},
	})
}

// invalidShapes are shapes of each kind with each fault.
func invalidShapes() []api.Shape {
	kind := func(kind api.ShapeKind, s api.Shape) api.Shape {
		s.Kind = kind
		return s
	}
	radius := func(radius int, s api.Shape) api.Shape {
		s.Radius = radius
		return s
	}
	return []api.Shape{
		{}, {Kind: api.Circle}, {Kind: api.Capsule}, {Kind: api.Polygon}, {Vertices: path(0, 0)},
		kind(0, disc(one, 0, 0)), kind(4, bar()), kind(-1, block()), kind(far, block()),
		kind(api.Capsule, disc(one, 0, 0)), kind(api.Polygon, disc(one, 0, 0)), kind(api.Circle, bar()), kind(api.Polygon, bar()), kind(api.Circle, block()), kind(api.Capsule, block()),
		disc(api.MinRadius-1, 0, 0), disc(api.MaxRadius+1, 0, 0), disc(0, 0, 0), disc(-one, 0, 0), disc(low, 0, 0), disc(high, 0, 0), disc(one, limit+1, 0), disc(one, 0, low),
		{Kind: api.Circle, Radius: one, Vertices: path(0, 0, one, 0)},
		radius(api.MinRadius-1, bar()), radius(api.MaxRadius+1, bar()), radius(0, bar()), pill(half, 0, 0, 0, limit+1), pill(half, 0, 0, api.MinEdgeLength-1, 0), pill(half, 7, 7, 7, 7), pill(half, 0, 0), pill(half, 0, 0, one, 0, 2*one, 0),
		radius(1, block()), radius(-1, block()), radius(one, block()), whole(poly(0, 0, 4, 0)), whole(poly(0, 0, 17, 0, 17, 4, 0, 4)),
		whole(poly(0, 4, 4, 4, 4, 0, 0, 0)), whole(poly(0, 0, 2, 0, 4, 0, 4, 4, 0, 4)), whole(poly(0, 0, 4, 0, 1, 1, 0, 4)), whole(poly(0, 0, 0, 0, 0, 0)), poly(0, 0, api.MinEdgeLength-1, 0, 0, 8192), poly(0, 0, 4096, 0, 0, 4096-1),
		whole(poly(0, 0, 2, 0, 4, 1, 5, 2, 5, 4, 4, 5, 2, 5, 1, 4, 0, 2)),
	}
}

// P16.1: an invalid shape touches nothing, whichever it is, not even itself.
func TestCollideOfInvalidShapes(t *testing.T) {
	valid := []api.Shape{disc(one, 0, 0), bar(), block()}
	for _, bad := range invalidShapes() {
		for _, good := range valid {
			for _, p := range []pair{both(good, good), both(bad, good), both(good, bad), both(bad, bad), {bad, at(high, low, far), good, at(0, 0, 0)}} {
				got := collide(p)
				if isGood := shape.Equal(p.a, good) && shape.Equal(p.b, good); got.ok != isGood {
					t.Errorf("Collide%v = %v", p, got)
				} else if !isGood && (got.m.Normal != vec(0, 0) || len(got.m.Points) > 0) {
					t.Errorf("Collide%v = %v, want the zero value", p, got)
				}
			}
		}
	}
}

// P16.1: beside false there is nothing, not even a normal.
func TestNothingBesideFalse(t *testing.T) {
	count := 0
	for _, p := range pairs() {
		if got := collide(p); !got.ok {
			count++
			if got.m.Normal != vec(0, 0) || got.m.Points != nil {
				t.Fatalf("Collide%v = %v, want the zero value", p, got)
			}
		}
	}
	if count < 10000 {
		t.Errorf("only %d pairs do not touch", count)
	}
}

// P16.1
func TestImpulsesAreZero(t *testing.T) {
	for _, p := range pairs() {
		for _, c := range collide(p).m.Points {
			if c.NormalImpulse != 0 || c.TangentImpulse != 0 {
				t.Fatalf("Collide%v has the point %v", p, c)
			}
		}
	}
}

// P16.6
func TestManifoldsAreWellFormed(t *testing.T) {
	for _, p := range pairs() {
		got := collide(p)
		if !got.ok {
			continue
		}
		points := got.m.Points
		if len(points) != 1 && len(points) != 2 {
			t.Fatalf("Collide%v has %d points", p, len(points))
		}
		if len(points) == 2 && points[0].ID == points[1].ID {
			t.Fatalf("Collide%v has two points with the ID %d", p, points[0].ID)
		}
		for _, c := range points {
			if c.Separation > margin {
				t.Fatalf("Collide%v has the point %v", p, c)
			}
		}
		if again := flip(flip(got)); !same(again, got) {
			t.Fatalf("%v flipped twice is %v", got, again)
		}
	}
}

// outcome tells what became of a pair: its kinds, the number of points, and whether the roles were exchanged.
type outcome struct {
	kinds     [2]api.ShapeKind
	points    int
	exchanged bool
}

// P16.1 to P16.4: the samples have every outcome, for every two kinds.
func TestSamplesHaveEveryOutcome(t *testing.T) {
	counts := map[outcome]int{}
	ids := map[int]bool{}
	for _, p := range meetings() {
		m := collide(p).m
		exchanged := len(m.Points) > 0 && m.Points[0].ID >= 4096
		counts[outcome{p.kinds(), len(m.Points), exchanged}]++
		for _, c := range m.Points {
			ids[c.ID%4096] = true
		}
	}
	for _, a := range []api.ShapeKind{api.Circle, api.Capsule, api.Polygon} {
		for _, b := range []api.ShapeKind{api.Circle, api.Capsule, api.Polygon} {
			kinds := [2]api.ShapeKind{a, b}
			wanted := []outcome{{kinds, 0, false}, {kinds, 1, false}}
			if a != api.Circle && b != api.Circle && a+b > 2*api.Capsule {
				wanted = append(wanted, outcome{kinds, 2, false}, outcome{kinds, 1, true}, outcome{kinds, 2, true})
			}
			for _, o := range wanted {
				if counts[o] < 50 {
					t.Errorf("only %d samples have the outcome %v", counts[o], o)
				}
				delete(counts, o)
			}
		}
	}
	if len(counts) > 0 {
		t.Errorf("there are other outcomes: %v", counts)
	}
	if len(ids) < 100 {
		t.Errorf("there are only %d different IDs", len(ids))
	}
}

// quarterTurned is the pair turned by a right angle about the origin.
func quarterTurned(p pair) pair {
	p.ta = at(-p.ta.Position.Y, p.ta.Position.X, p.ta.Angle+quarter)
	p.tb = at(-p.tb.Position.Y, p.tb.Position.X, p.tb.Angle+quarter)
	return p
}

// carried is the pair moved by shift.
func carried(p pair, shift api.Vec) pair {
	p.ta.Position, p.tb.Position = plus(p.ta.Position, shift), plus(p.tb.Position, shift)
	return p
}

// changed is the answer with normals and places changed.
func changed(a answer, normal, place func(api.Vec) api.Vec) answer {
	if !a.ok {
		return a
	}
	a.m = api.Manifold{Normal: normal(a.m.Normal), Points: slices.Clone(a.m.Points)}
	for i, c := range a.m.Points {
		a.m.Points[i].Point = place(c.Point)
	}
	return a
}

// P16.2 to P16.4: moving both shapes moves the points, and turning them by a right angle turns the manifold, bit by bit, as rounding treats all four directions alike.
func TestManifoldsMoveWithTheShapes(t *testing.T) {
	stay := func(v api.Vec) api.Vec { return v }
	turn := func(v api.Vec) api.Vec { return vec(-v.Y, v.X) }
	shift := vec(123456, -98765)
	count := 0
	for _, p := range meetings() {
		got := collide(p)
		if moved := collide(carried(p, shift)); !same(moved, changed(got, stay, func(v api.Vec) api.Vec { return plus(v, shift) })) {
			t.Fatalf("Collide%v = %v, but moved by %v %v", p, got, shift, moved)
		}
		// Where the cores of round shapes meet, the normal is (0, One) in any case.
		if p.ta.Angle%quarter != 0 || p.tb.Angle%quarter != 0 || (p.a.Kind != api.Polygon && p.b.Kind != api.Polygon && got.m.Normal == vec(0, one)) {
			continue
		}
		count++
		if turned := collide(quarterTurned(p)); !same(turned, changed(got, turn, turn)) {
			t.Fatalf("Collide%v = %v, but turned %v", p, got, turned)
		}
	}
	if count < 1000 {
		t.Errorf("only %d pairs were turned", count)
	}
}

// P16.2, P16.3: separations are those of the shapes, and points lie halfway between them, up to the rounding of the normal.
func TestSeparationsAreTrue(t *testing.T) {
	count := 0
	for _, p := range meetings() {
		got := collide(p)
		distance, ok := trueDistance(p)
		if !ok {
			continue
		}
		count++
		if touches := distance <= margin; touches != got.ok && math.Abs(distance-margin) > 3 {
			t.Fatalf("Collide%v = %v, but the distance is %v", p, got, distance)
		}
		if !got.ok {
			continue
		}
		c := got.m.Points[0]
		// Within a polygon and close to its edges the error grows with the length of the edge.
		tolerance := 3.0
		if distance+float64(p.a.Radius+p.b.Radius) < 100 {
			tolerance = 50
		}
		if math.Abs(distance-float64(c.Separation)) > tolerance {
			t.Fatalf("Collide%v = %v, but the distance is %v", p, got, distance)
		}
		if c.Separation < 0 {
			// Behind a sharp corner the point can lie outside again.
			continue
		}
		toA, toB := trueDistanceToPoint(p.a, p.ta, c.Point), trueDistanceToPoint(p.b, p.tb, c.Point)
		if away := math.Max(math.Abs(toA-distance/2), math.Abs(toB-distance/2)); away > 10 {
			t.Fatalf("Collide%v = %v, but the point is %v and %v away from the shapes", p, got, toA, toB)
		}
	}
	if count < 10000 {
		t.Errorf("only %d pairs were compared", count)
	}
}

// manifolds are such as Collide returns, and any others.
func manifolds() []api.Manifold {
	full := api.ContactPoint{Point: vec(1, 2), Separation: 3, ID: 4, NormalImpulse: 5, TangentImpulse: 6}
	extreme := api.ContactPoint{Point: vec(low, high), Separation: low, ID: high, NormalImpulse: low, TangentImpulse: high}
	return []api.Manifold{
		{}, {Points: []api.ContactPoint{}}, {Normal: vec(one, 0)}, {Normal: vec(7, -9), Points: []api.ContactPoint{}},
		{Normal: vec(0, -one), Points: []api.ContactPoint{full}}, {Points: []api.ContactPoint{full}}, {Points: []api.ContactPoint{{}}},
		{Normal: vec(39322, -52429), Points: []api.ContactPoint{full, extreme}}, {Normal: vec(1, 1), Points: []api.ContactPoint{full, full}},
		{Normal: vec(low, high), Points: []api.ContactPoint{extreme}}, {Normal: vec(far, -far), Points: []api.ContactPoint{{}, full, extreme, {}, full}},
		{Normal: vec(-most, most), Points: make([]api.ContactPoint, 1000)},
	}
}

// equal compares all fields one by one.
func equal(a, b api.Manifold) bool {
	if a.Normal.X != b.Normal.X || a.Normal.Y != b.Normal.Y || len(a.Points) != len(b.Points) {
		return false
	}
	for i, p := range a.Points {
		q := b.Points[i]
		if p.Point.X != q.Point.X || p.Point.Y != q.Point.Y || p.Separation != q.Separation || p.ID != q.ID || p.NormalImpulse != q.NormalImpulse || p.TangentImpulse != q.TangentImpulse {
			return false
		}
	}
	return true
}

// P16.5: the normal alone changes.
func TestFlip(t *testing.T) {
	points := []api.ContactPoint{{Point: vec(1, -2), Separation: -3, ID: 4, NormalImpulse: 5, TangentImpulse: -6}, {Point: vec(-7, 8), Separation: 9, ID: -10, NormalImpulse: -11, TangentImpulse: 12}}
	for _, list := range [][]api.ContactPoint{nil, {}, points[:1], points} {
		for _, r := range []struct{ normal, want api.Vec }{
			{vec(0, 0), vec(0, 0)}, {vec(one, 0), vec(-one, 0)}, {vec(0, -one), vec(0, one)}, {vec(39322, -52429), vec(-39322, 52429)},
			{vec(-1, -1), vec(1, 1)}, {vec(most, -most), vec(-most, most)}, {vec(far, -far), vec(-far, far)}, {vec(high, low+1), vec(-high, high)},
		} {
			got := manifold.Flip(api.Manifold{Normal: r.normal, Points: list})
			if want := (api.Manifold{Normal: r.want, Points: list}); !equal(got, want) {
				t.Errorf("Flip of the normal %v with %v = %v, want %v", r.normal, list, got, want)
			}
		}
	}
}

// P16.6
func TestFlipTwice(t *testing.T) {
	for _, m := range manifolds() {
		if got := manifold.Flip(manifold.Flip(m)); !equal(got, m) {
			t.Errorf("%v flipped twice is %v", m, got)
		}
	}
}

// differing are manifolds that differ from m in one field each.
func differing(m api.Manifold) []api.Manifold {
	list := []api.Manifold{
		{Normal: vec(m.Normal.X+1, m.Normal.Y), Points: m.Points},
		{Normal: vec(m.Normal.X, m.Normal.Y-1), Points: m.Points},
		{Normal: vec(m.Normal.Y, m.Normal.X^1), Points: m.Points},
		{Normal: m.Normal, Points: append(slices.Clone(m.Points), api.ContactPoint{})},
		{Normal: m.Normal, Points: append([]api.ContactPoint{{ID: 77}}, m.Points...)},
	}
	for i := range m.Points {
		for _, change := range []func(*api.ContactPoint){
			func(p *api.ContactPoint) { p.Point.X++ }, func(p *api.ContactPoint) { p.Point.Y-- }, func(p *api.ContactPoint) { p.Separation++ },
			func(p *api.ContactPoint) { p.ID ^= 4096 }, func(p *api.ContactPoint) { p.NormalImpulse++ }, func(p *api.ContactPoint) { p.TangentImpulse-- },
		} {
			other := api.Manifold{Normal: m.Normal, Points: slices.Clone(m.Points)}
			change(&other.Points[i])
			list = append(list, other)
		}
		list = append(list, api.Manifold{Normal: m.Normal, Points: slices.Delete(slices.Clone(m.Points), i, i+1)})
	}
	return list
}

// P16.5
func TestEqual(t *testing.T) {
	list := manifolds()
	for i, m := range list {
		for j, n := range list {
			// The first two are the same, once with a nil and once with an empty slice.
			if got, want := manifold.Equal(m, n), equal(m, n); got != want || want != (i == j || i+j == 1) {
				t.Errorf("Equal(%v, %v) = %v", m, n, got)
			}
		}
		again := api.Manifold{Normal: m.Normal, Points: append(make([]api.ContactPoint, 0, len(m.Points)+3), m.Points...)}
		if !manifold.Equal(m, again) || !manifold.Equal(again, m) {
			t.Errorf("Equal(%v, %v) = false", m, again)
		}
		if len(m.Points) > 10 {
			continue
		}
		for _, n := range differing(m) {
			if manifold.Equal(m, n) || manifold.Equal(n, m) {
				t.Errorf("Equal(%v, %v) = true", m, n)
			}
		}
	}
	// The order counts.
	points := []api.ContactPoint{{ID: 1}, {ID: 2}}
	if manifold.Equal(api.Manifold{Points: points}, api.Manifold{Points: []api.ContactPoint{{ID: 2}, {ID: 1}}}) {
		t.Errorf("Equal of points in another order = true")
	}
}

// P16.5: neither Clone nor Flip shares memory with its argument, nor do they write behind its length.
func TestCopiesShareNoMemory(t *testing.T) {
	for name, call := range map[string]func(api.Manifold) api.Manifold{"Clone": manifold.Clone, "Flip": manifold.Flip} {
		for _, m := range manifolds() {
			behind := api.ContactPoint{ID: 99}
			points := append(slices.Clone(m.Points), behind, behind)
			m.Points = points[:len(m.Points)]
			before := slices.Clone(points)
			got := call(m)
			want := api.Manifold{Normal: got.Normal, Points: slices.Clone(got.Points)}
			if !slices.Equal(points, before) || !slices.Equal(got.Points, m.Points) {
				t.Errorf("%s of %v: the points are %v now, they were %v", name, m, points, before)
			}
			if name == "Clone" && !equal(got, m) {
				t.Errorf("Clone(%v) = %v", m, got)
			}
			clear(points)
			if !equal(got, want) {
				t.Errorf("%s of %v changes with its argument", name, m)
			}
			copy(points, before)
			clear(append(got.Points, api.ContactPoint{ID: 5}))
			clear(got.Points)
			if !slices.Equal(points, before) || !equal(call(m), want) {
				t.Errorf("%s of %v: a write to the result reaches the argument", name, m)
			}
		}
	}
}

// P16.1: shapes stay as they are, with what lies behind the length of their vertices, and results share no memory with each other.
func TestCollideLeavesShapesAsTheyAre(t *testing.T) {
	shapes := slices.Concat(invalidShapes(), []api.Shape{disc(one, 0, 0), bar(), block(), diamond(), ring()})
	for _, a := range shapes {
		for _, b := range shapes {
			p := pair{a, at(5, 6, 7), b, at(one, -one, quarter)}
			behind := path(5, 6, 7, 8)
			first, second := append(slices.Clone(a.Vertices), behind...), append(slices.Clone(b.Vertices), behind...)
			p.a.Vertices, p.b.Vertices = first[:len(a.Vertices)], second[:len(b.Vertices)]
			got := collide(p)
			if !slices.Equal(first, append(slices.Clone(a.Vertices), behind...)) || !slices.Equal(second, append(slices.Clone(b.Vertices), behind...)) {
				t.Fatalf("Collide%v changes the vertices to %v and %v", p, first, second)
			}
			again := collide(p)
			if !same(got, again) {
				t.Fatalf("Collide%v = %v and then %v", p, got, again)
			}
			clear(got.m.Points)
			clear(first)
			clear(second)
			if want := collide(pair{a, p.ta, b, p.tb}); !same(again, want) {
				t.Fatalf("Collide%v = %v, but after a write to another result %v", p, want, again)
			}
		}
	}
}

// P16.5: manifolds of the samples are equal to their clones, and to their flips only without a normal.
func TestManifoldsOfSamples(t *testing.T) {
	for _, p := range meetings() {
		m := collide(p).m
		if clone := manifold.Clone(m); !manifold.Equal(m, clone) || !equal(m, clone) {
			t.Fatalf("Clone(%v) = %v", m, clone)
		}
		if flipped := manifold.Flip(m); manifold.Equal(m, flipped) != (m.Normal == vec(0, 0)) {
			t.Fatalf("Equal(%v, %v) = %v", m, flipped, manifold.Equal(m, flipped))
		}
	}
}
