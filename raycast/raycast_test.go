package raycast_test

import (
	"math"
	"slices"
	"testing"

	"carom/api"
	"carom/raycast"
)

const (
	one     = api.One
	half    = api.One / 2
	fourth  = api.One / 4
	eighth  = api.One / 8
	third   = 21845
	limit   = api.MaxCoordinate
	most    = api.MaxValue
	quarter = api.HalfPi
	world   = api.WorldLimit
	far     = 1 << 40
	low     = math.MinInt
	high    = math.MaxInt

	// slant is a component of the direction halfway between the axes, steep and flat are those of the directions of the triangle with the sides 3, 4 and 5.
	slant = 46341
	steep = 52429
	flat  = 39322
)

// ray holds the ends of a ray.
type ray struct{ from, to api.Vec }

// disk holds the arguments of CastCircle.
type disk struct {
	center api.Vec
	radius int
	ray
}

// outline holds the arguments of CastPolygon.
type outline struct {
	vertices []api.Vec
	ray
}

// aimed holds the arguments of Cast.
type aimed struct {
	s api.Shape
	t api.Transform
	ray
}

// hit is what the functions answer.
type hit struct {
	at     int
	normal api.Vec
	found  bool
}

var (
	// none is the answer where there is no intersection.
	none = hit{}
	// inside is the answer of Cast where the ray starts in the shape.
	inside = hit{found: true}
)

// hits is the answer at a fraction, with the components of the normal.
func hits(at, x, y int) hit {
	return hit{at, vec(x, y), true}
}

func vec(x, y int) api.Vec {
	return api.Vec{X: x, Y: y}
}

func plus(a, b api.Vec) api.Vec {
	return vec(a.X+b.X, a.Y+b.Y)
}

func minus(a, b api.Vec) api.Vec {
	return vec(a.X-b.X, a.Y-b.Y)
}

// path makes vertices of pairs of coordinates.
func path(coordinates ...int) []api.Vec {
	var list []api.Vec
	for i := 0; i+1 < len(coordinates); i += 2 {
		list = append(list, vec(coordinates[i], coordinates[i+1]))
	}
	return list
}

// wholePath makes vertices of pairs of coordinates in whole units.
func wholePath(coordinates ...int) []api.Vec {
	list := path(coordinates...)
	for i, v := range list {
		list[i] = vec(v.X*one, v.Y*one)
	}
	return list
}

func line(x, y, toX, toY int) ray {
	return ray{vec(x, y), vec(toX, toY)}
}

// whole is a ray between points in whole units.
func whole(x, y, toX, toY int) ray {
	return line(x*one, y*one, toX*one, toY*one)
}

func at(x, y, angle int) api.Transform {
	return api.Transform{Position: vec(x, y), Angle: angle}
}

func disc(radius, x, y int) api.Shape {
	return api.Shape{Kind: api.Circle, Radius: radius, Vertices: path(x, y)}
}

func pill(radius int, ends ...int) api.Shape {
	return api.Shape{Kind: api.Capsule, Radius: radius, Vertices: path(ends...)}
}

func poly(coordinates ...int) api.Shape {
	return api.Shape{Kind: api.Polygon, Vertices: path(coordinates...)}
}

func wholePill(radius int, ends ...int) api.Shape {
	return api.Shape{Kind: api.Capsule, Radius: radius, Vertices: wholePath(ends...)}
}

func wholePoly(coordinates ...int) api.Shape {
	return api.Shape{Kind: api.Polygon, Vertices: wholePath(coordinates...)}
}

// plate is a rectangle to the right of the origin.
func plate() []api.Vec {
	return wholePath(2, -1, 3, -1, 3, 1, 2, 1)
}

// diamond is a square with corners to the left, below, to the right and above.
func diamond() []api.Vec {
	return wholePath(-1, 0, 0, -1, 1, 0, 0, 1)
}

// corner is half a square, with the right angle at the origin.
func corner() []api.Vec {
	return wholePath(0, 0, 4, 0, 0, 4)
}

// ring is an octagon around (3, 3).
func ring() []api.Vec {
	return wholePath(2, 0, 4, 0, 6, 2, 6, 4, 4, 6, 2, 6, 0, 4, 0, 2)
}

// wheel has twelve corners at the distance 5 from the origin.
func wheel() []api.Vec {
	return wholePath(5, 0, 4, 3, 3, 4, 0, 5, -3, 4, -4, 3, -5, 0, -4, -3, -3, -4, 0, -5, 3, -4, 4, -3)
}

// wedge is flat at its left end and thin at its right one, where its long edges are almost level.
func wedge() []api.Vec {
	return wholePath(0, -1, 10, 0, 0, 1)
}

// block is the square with side 4 and a corner at the origin.
func block() api.Shape {
	return wholePoly(0, 0, 4, 0, 4, 4, 0, 4)
}

// bar is the capsule from (-1, 0) to (1, 0).
func bar() api.Shape {
	return wholePill(fourth, -1, 0, 1, 0)
}

// shifted is the list that begins with vertex i.
func shifted(list []api.Vec, i int) []api.Vec {
	return slices.Concat(list[i:], list[:i])
}

func backwards(list []api.Vec) []api.Vec {
	list = slices.Clone(list)
	slices.Reverse(list)
	return list
}

// doubled has each vertex twice.
func doubled(list []api.Vec) []api.Vec {
	var twice []api.Vec
	for _, v := range list {
		twice = append(twice, v, v)
	}
	return twice
}

// here is the shape where its local coordinates say.
func here(s api.Shape, r ray) aimed {
	return aimed{s, at(0, 0, 0), r}
}

func castCircle(c disk) hit {
	fraction, normal, found := raycast.CastCircle(c.center, c.radius, c.from, c.to)
	return hit{fraction, normal, found}
}

func castPolygon(o outline) hit {
	fraction, normal, found := raycast.CastPolygon(o.vertices, o.from, o.to)
	return hit{fraction, normal, found}
}

func cast(a aimed) hit {
	fraction, normal, found := raycast.Cast(a.s, a.t, a.from, a.to)
	return hit{fraction, normal, found}
}

// row is a row of a table: the arguments and the answer that the chapter asks for.
type row[T any] struct {
	args T
	want hit
}

// check holds a function and its oracle against the rows.
func check[T any](t *testing.T, function, oracle func(T) hit, rows []row[T]) {
	t.Helper()
	for _, r := range rows {
		if got := function(r.args); got != r.want {
			t.Errorf("the cast of %v = %v, want %v", r.args, got, r.want)
		}
		if expected := oracle(r.args); expected != r.want {
			t.Errorf("the cast of %v: the oracle says %v, the row %v", r.args, expected, r.want)
		}
	}
}

func checkCircles(t *testing.T, rows []row[disk]) {
	t.Helper()
	check(t, castCircle, wantCircle, rows)
}

func checkPolygons(t *testing.T, rows []row[outline]) {
	t.Helper()
	check(t, castPolygon, wantPolygon, rows)
}

func checkShapes(t *testing.T, rows []row[aimed]) {
	t.Helper()
	check(t, cast, wantCast, rows)
}

// P18.1, with the example of the chapter.
func TestCastCircle(t *testing.T) {
	checkCircles(t, []row[disk]{
		// The example.
		{disk{vec(4*one, 0), one, whole(0, 0, 6, 0)}, hits(half, -one, 0)},
		// In the middle, from each side and aslant.
		{disk{vec(4*one, 0), one, whole(9, 0, 1, 0)}, hits(half, one, 0)},
		{disk{vec(0, 4*one), one, whole(0, 0, 0, 12)}, hits(fourth, 0, -one)},
		{disk{vec(0, 4*one), one, whole(0, 8, 0, 4)}, hits(3*fourth, 0, one)},
		{disk{vec(3*one, 4*one), one, whole(0, 0, 6, 8)}, hits(26215, -flat, -steep)},
		{disk{vec(0, 0), 5 * one, whole(-6, 8, 6, -8)}, hits(16384, -flat, steep)},
		// Aside, on either side.
		{disk{vec(10*one, 3*one), 5 * one, whole(0, 0, 12, 0)}, hits(half, -steep, -flat)},
		{disk{vec(10*one, -3*one), 5 * one, whole(0, 0, 12, 0)}, hits(half, -steep, flat)},
		{disk{vec(10*one, 4*one), 5 * one, whole(0, 0, 14, 0)}, hits(half, -flat, -steep)},
		{disk{vec(3*one, 10*one), 5 * one, whole(0, 18, 0, 10)}, hits(half, -flat, steep)},
		{disk{vec(-3*one, 10*one), 5 * one, whole(0, 18, 0, 10)}, hits(half, flat, steep)},
		// At a tangent, and one unit beyond it.
		{disk{vec(4*one, one), one, whole(0, 0, 8, 0)}, hits(half, 0, -one)},
		{disk{vec(4*one, -one), one, whole(0, 0, 8, 0)}, hits(half, 0, one)},
		{disk{vec(4*one, one+1), one, whole(0, 0, 8, 0)}, none},
		{disk{vec(4*one, -one-1), one, whole(0, 0, 8, 0)}, none},
		{disk{vec(one, 4*one), one, whole(0, 0, 0, 16)}, hits(fourth, -one, 0)},
		{disk{vec(one+1, 4*one), one, whole(0, 0, 0, 16)}, none},
		{disk{vec(-one, 4*one), one, whole(0, 16, 0, 0)}, hits(3*fourth, one, 0)},
		{disk{vec(-one-1, 4*one), one, whole(0, 16, 0, 0)}, none},
		{disk{vec(4*one, 9*one), one, whole(0, 0, 8, 0)}, none},
	})
}

// P18.1
func TestCastCircleFromItsBorder(t *testing.T) {
	checkCircles(t, []row[disk]{
		// From the border, and one unit outside and inside of it.
		{disk{vec(one, 0), one, whole(0, 0, 6, 0)}, hits(0, -one, 0)},
		{disk{vec(one+1, 0), one, whole(0, 0, 6, 0)}, hits(0, -one, 0)},
		{disk{vec(one+6, 0), one, whole(0, 0, 6, 0)}, hits(1, -one, 0)},
		{disk{vec(one-1, 0), one, whole(0, 0, 6, 0)}, none},
		{disk{vec(4*one, 3*one), 5 * one, whole(0, 0, 9, 0)}, hits(0, -steep, -flat)},
		{disk{vec(4*one-1, 3*one), 5 * one, whole(0, 0, 9, 0)}, none},
		{disk{vec(0, one), one, whole(0, 0, 6, 0)}, hits(0, 0, -one)},
		{disk{vec(0, -one), one, whole(0, 0, 6, 0)}, hits(0, 0, one)},
		// From inside.
		{disk{vec(0, 0), one, whole(0, 0, 6, 0)}, none},
		{disk{vec(half, 0), one, whole(0, 0, 6, 0)}, none},
		{disk{vec(-half, 0), one, whole(0, 0, 6, 0)}, none},
		{disk{vec(0, half), one, whole(0, 0, 0, 6)}, none},
		{disk{vec(3*one, one), 8 * one, whole(0, 0, 6, 0)}, none},
		// Behind the start, and from the border away.
		{disk{vec(-4*one, 0), one, whole(0, 0, 6, 0)}, none},
		{disk{vec(-one-1, 0), one, whole(0, 0, 6, 0)}, none},
		{disk{vec(-one, 0), one, whole(0, 0, 6, 0)}, none},
		{disk{vec(-1, one), one, whole(0, 0, 6, 0)}, none},
		{disk{vec(0, 7*one), one, whole(0, 0, 0, -6)}, none},
	})
}

// P18.1
func TestCastCircleAtTheEndOfTheRay(t *testing.T) {
	checkCircles(t, []row[disk]{
		// Exactly at the end, one unit before it and one beyond it.
		{disk{vec(7*one, 0), one, whole(0, 0, 6, 0)}, hits(one, -one, 0)},
		{disk{vec(7*one-1, 0), one, whole(0, 0, 6, 0)}, hits(one, -one, 0)},
		{disk{vec(7*one-6, 0), one, whole(0, 0, 6, 0)}, hits(one-1, -one, 0)},
		{disk{vec(7*one+1, 0), one, whole(0, 0, 6, 0)}, none},
		{disk{vec(9*one, 0), one, whole(0, 0, 6, 0)}, none},
		{disk{vec(0, -7*one), one, whole(0, 0, 0, -6)}, hits(one, 0, one)},
		{disk{vec(0, -7*one-1), one, whole(0, 0, 0, -6)}, none},
		{disk{vec(10*one, 3*one), 5 * one, whole(0, 0, 6, 0)}, hits(one, -steep, -flat)},
		{disk{vec(10*one+1, 3*one), 5 * one, whole(0, 0, 6, 0)}, none},
		{disk{vec(6*one, one), one, whole(0, 0, 6, 0)}, hits(one, 0, -one)},
		{disk{vec(6*one+1, one), one, whole(0, 0, 6, 0)}, none},
		// Rays of one unit.
		{disk{vec(one+1, 0), one, line(0, 0, 1, 0)}, hits(one, -one, 0)},
		{disk{vec(one, 0), one, line(0, 0, 1, 0)}, hits(0, -one, 0)},
		{disk{vec(one+2, 0), one, line(0, 0, 1, 0)}, none},
		{disk{vec(one-1, 0), one, line(0, 0, 1, 0)}, none},
		// Rays of length 0: outside, on the border, inside, at the center.
		{disk{vec(4*one, 0), one, whole(0, 0, 0, 0)}, none},
		{disk{vec(one, 0), one, whole(0, 0, 0, 0)}, none},
		{disk{vec(half, 0), one, whole(0, 0, 0, 0)}, none},
		{disk{vec(0, 0), one, whole(0, 0, 0, 0)}, none},
		{disk{vec(0, 0), 0, whole(0, 0, 0, 0)}, none},
		{disk{vec(7, 9), one, line(7, 9, 7, 9)}, none},
		// Two ends that are the same saturated point.
		{disk{vec(most, 0), 0, line(far, 0, high, 0)}, none},
		{disk{vec(most, -most), 7, line(most, -most, most+1, low)}, none},
	})
}

// P18.1
func TestCastCircleOfAnyRadius(t *testing.T) {
	checkCircles(t, []row[disk]{
		// Radius 0: the center on the ray, at its ends, before and beyond them, and beside it.
		{disk{vec(4*one, 0), 0, whole(0, 0, 8, 0)}, hits(half, 0, 0)},
		{disk{vec(3*one, 4*one), 0, whole(3, 0, 3, 16)}, hits(fourth, 0, 0)},
		{disk{vec(0, 0), 0, whole(0, 0, 8, 0)}, hits(0, 0, 0)},
		{disk{vec(8*one, 0), 0, whole(0, 0, 8, 0)}, hits(one, 0, 0)},
		{disk{vec(-1, 0), 0, whole(0, 0, 8, 0)}, none},
		{disk{vec(8*one+1, 0), 0, whole(0, 0, 8, 0)}, none},
		{disk{vec(4*one, 1), 0, whole(0, 0, 8, 0)}, none},
		{disk{vec(4*one, -1), 0, whole(0, 0, 8, 0)}, none},
		{disk{vec(1, 4*one), 0, whole(0, 0, 0, 8)}, none},
		// The point at the rounded fraction lies beside the center.
		{disk{vec(one, 0), 0, whole(0, 0, 3, 0)}, hits(third, -one, 0)},
		{disk{vec(2*one, 0), 0, whole(0, 0, 3, 0)}, hits(43691, one, 0)},
		// Radius 1.
		{disk{vec(4*one, 1), 1, whole(0, 0, 8, 0)}, hits(half, 0, -one)},
		{disk{vec(4*one, 2), 1, whole(0, 0, 8, 0)}, none},
		// Negative radii, whose squares are the same as those of positive ones.
		{disk{vec(4*one, 0), -1, whole(0, 0, 6, 0)}, none},
		{disk{vec(4*one, 0), -one, whole(0, 0, 6, 0)}, none},
		{disk{vec(4*one, one), -one, whole(0, 0, 6, 0)}, none},
		{disk{vec(4*one, 0), -most, whole(0, 0, 6, 0)}, none},
		{disk{vec(4*one, 0), low, whole(0, 0, 6, 0)}, none},
		// The largest radius, and one unit more.
		{disk{vec(0, 0), most, line(-most, 0, 0, 0)}, hits(0, -one, 0)},
		{disk{vec(most, most), most, line(-most, -most, most, -most)}, hits(one, -one, -one)},
		{disk{vec(most, most), most + 1, line(-most, -most, most, -most)}, none},
		{disk{vec(most, most), most - 1, line(-most, -most, most, -most)}, none},
		{disk{vec(0, 0), most + 1, line(-most, 0, 0, 0)}, none},
		{disk{vec(most, most), far, line(-most, -most, most, -most)}, none},
		{disk{vec(4*one, 0), 1 << 32, whole(0, 0, 6, 0)}, none},
		{disk{vec(4*one, 0), high, whole(0, 0, 6, 0)}, none},
	})
}

// P18.1
func TestCastCircleRounds(t *testing.T) {
	checkCircles(t, []row[disk]{
		// Fractions are rounded to the nearest one, halves up.
		{disk{vec(4*one, 0), one, whole(0, 0, 9, 0)}, hits(third, -one, 0)},
		{disk{vec(7*one, 0), one, whole(0, 0, 9, 0)}, hits(43691, -one, 0)},
		{disk{vec(one+1, 0), one, whole(0, 0, 2, 0)}, hits(1, -one, 0)},
		{disk{vec(one+1, 0), one, line(0, 0, 2*one+1, 0)}, hits(0, -one, 0)},
		{disk{vec(one+3, 0), one, whole(0, 0, 2, 0)}, hits(2, -one, 0)},
		{disk{vec(one+3, 0), one, whole(0, 0, 4, 0)}, hits(1, -one, 0)},
		{disk{vec(one+1, 0), one, whole(0, 0, 4, 0)}, hits(0, -one, 0)},
		// The normal belongs to the point at the rounded fraction.
		{disk{vec(eighth, 2048), 2048, whole(0, 0, 5, 0)}, hits(1638, -64, -65536)},
		{disk{vec(eighth, 2048), 2048, whole(0, 0, 100, 0)}, hits(82, 256, -65536)},
		{disk{vec(one, 3), 5, whole(0, 0, 1, 0)}, hits(65532, -steep, -flat)},
		// Directions are rounded, so that the circle is off the ray by some units.
		{disk{vec(one, one), 0, whole(0, 0, 4, 4)}, hits(16384, 0, 0)},
		{disk{vec(100*one, 50*one), 0, whole(0, 0, 200, 100)}, none},
		{disk{vec(100*one, 50*one), 49, whole(0, 0, 200, 100)}, none},
		{disk{vec(100*one, 50*one), 50, whole(0, 0, 200, 100)}, hits(32768, 0, 0)},
	})
}

// P18.1: points are saturated, and so are their differences.
func TestCastCircleFarAway(t *testing.T) {
	checkCircles(t, []row[disk]{
		{disk{vec(0, 0), one, line(low, 0, 0, 0)}, hits(65528, -one, 0)},
		{disk{vec(0, 0), one, line(-far, 0, 0, 0)}, hits(65528, -one, 0)},
		{disk{vec(high, 0), one, line(most-3*one, 0, far, 0)}, hits(43691, -one, 0)},
		{disk{vec(far, low), one, line(most+9, -most-9, 0, low)}, none},
		{disk{vec(far, low), one, line(most-2*one, -most-9, most+2*one, low)}, hits(half, -one, 0)},
		{disk{vec(high, high), one, line(high, most-4*one, high, high)}, hits(49152, 0, -one)},
		// The way to the end is saturated: it leads to 0.
		{disk{vec(0, 0), one, line(-most, 0, most, 0)}, hits(65528, -one, 0)},
		{disk{vec(one, 0), one, line(-most, 0, most, 0)}, hits(65528, -one, 0)},
		{disk{vec(4*one, 0), one, line(-most, 0, most, 0)}, hits(65528, -one, 0)},
		{disk{vec(most, 0), one, line(-most, 0, most, 0)}, hits(65528, -one, 0)},
		// The way to the center is saturated.
		{disk{vec(most, 0), one, line(-one, 0, most, 0)}, hits(65528, -one, 0)},
		{disk{vec(most, one), one, line(-2*one, one, 9*one, one)}, none},
		// A direction longer than One: the way to the center counts as MaxValue.
		{disk{vec(0, 0), one, line(-most, -most, 0, 0)}, hits(46335, -slant, -slant)},
		{disk{vec(0, 0), 0, line(most, most, 0, 0)}, hits(46341, slant, slant)},
	})
}

// P18.2
func TestCastPolygonOfFewVertices(t *testing.T) {
	checkPolygons(t, []row[outline]{
		{outline{nil, whole(0, 0, 4, 0)}, none},
		{outline{[]api.Vec{}, whole(0, 0, 4, 0)}, none},
		{outline{nil, whole(0, 0, 0, 0)}, none},
		{outline{wholePath(2, 0), whole(0, 0, 4, 0)}, none},
		{outline{wholePath(0, 0), whole(0, 0, 4, 0)}, none},
		// Two vertices are a line with two sides, in either order, also beside both vertices.
		{outline{wholePath(2, -1, 2, 1), whole(0, 0, 4, 0)}, hits(half, -one, 0)},
		{outline{wholePath(2, 1, 2, -1), whole(0, 0, 4, 0)}, hits(half, -one, 0)},
		{outline{wholePath(2, -1, 2, 1), whole(4, 0, 0, 0)}, hits(half, one, 0)},
		{outline{wholePath(2, -1, 2, 1), whole(0, 5, 4, 5)}, hits(half, -one, 0)},
		{outline{wholePath(2, -1, 2, 1), whole(0, 0, 2, 0)}, hits(one, -one, 0)},
		{outline{wholePath(2, -1, 2, 1), whole(2, 0, 4, 0)}, hits(0, -one, 0)},
		{outline{wholePath(2, -1, 2, 1), whole(2, 0, 0, 0)}, hits(0, one, 0)},
		{outline{wholePath(2, -1, 2, 1), whole(0, 0, 1, 0)}, none},
		{outline{wholePath(2, -1, 2, 1), whole(3, 0, 4, 0)}, none},
		{outline{wholePath(2, -1, 2, 1), whole(2, -4, 2, 4)}, none},
		{outline{wholePath(2, -1, 2, 1), whole(1, -4, 1, 4)}, none},
		{outline{wholePath(2, -1, 2, 1), whole(3, -4, 3, 4)}, none},
		{outline{wholePath(2, 1, 2, 1), whole(0, 1, 4, 1)}, none},
		{outline{wholePath(2, 1, 2, 1), whole(2, 1, 4, 1)}, none},
	})
}

// P18.2
func TestCastPolygonThroughEachEdge(t *testing.T) {
	checkPolygons(t, []row[outline]{
		// A rectangle.
		{outline{plate(), whole(0, 0, 4, 0)}, hits(half, -one, 0)},
		{outline{plate(), whole(5, 0, 1, 0)}, hits(half, one, 0)},
		{outline{plate(), line(5*half, -2*one, 5*half, 2*one)}, hits(fourth, 0, -one)},
		{outline{plate(), line(5*half, 4*one, 5*half, 0)}, hits(3*fourth, 0, one)},
		// A triangle.
		{outline{corner(), whole(1, -2, 1, 2)}, hits(half, 0, -one)},
		{outline{corner(), whole(-2, 1, 6, 1)}, hits(fourth, -one, 0)},
		{outline{corner(), whole(4, 4, 0, 0)}, hits(half, slant, slant)},
		{outline{corner(), whole(4, 2, 0, 2)}, hits(half, slant, slant)},
		// As many vertices as a shape may have.
		{outline{ring(), whole(3, -3, 3, 3)}, hits(half, 0, -one)},
		{outline{ring(), whole(7, -1, 3, 3)}, hits(half, slant, -slant)},
		{outline{ring(), whole(9, 3, 3, 3)}, hits(half, one, 0)},
		{outline{ring(), whole(7, 7, 3, 3)}, hits(half, slant, slant)},
		{outline{ring(), whole(3, 9, 3, 3)}, hits(half, 0, one)},
		{outline{ring(), whole(-1, 7, 3, 3)}, hits(half, -slant, slant)},
		{outline{ring(), whole(-3, 3, 3, 3)}, hits(half, -one, 0)},
		{outline{ring(), whole(-1, -1, 3, 3)}, hits(half, -slant, -slant)},
		// More vertices.
		{outline{wheel(), whole(7, 7, 0, 0)}, hits(half, slant, slant)},
		{outline{wheel(), whole(-7, 7, 0, 0)}, hits(half, -slant, slant)},
		{outline{wheel(), whole(7, -7, -7, 7)}, hits(fourth, slant, -slant)},
		{outline{doubled(wheel()), whole(-7, -7, 7, 7)}, hits(fourth, -slant, -slant)},
		{outline{wholePath(0, 0, 1, 0, 2, 0, 3, 0, 4, 0, 4, 1, 4, 2, 4, 3, 4, 4, 3, 4, 2, 4, 1, 4, 0, 4, 0, 3, 0, 2, 0, 1), whole(2, 8, 2, 0)}, hits(half, 0, one)},
	})
}

// P18.2: where the ray enters through a corner, the first of the two edges tells the normal.
func TestCastPolygonThroughACorner(t *testing.T) {
	checkPolygons(t, []row[outline]{
		{outline{diamond(), whole(-3, 0, 3, 0)}, hits(third, -slant, -slant)},
		{outline{shifted(diamond(), 1), whole(-3, 0, 3, 0)}, hits(third, -slant, slant)},
		{outline{shifted(diamond(), 2), whole(-3, 0, 3, 0)}, hits(third, -slant, slant)},
		{outline{shifted(diamond(), 3), whole(-3, 0, 3, 0)}, hits(third, -slant, slant)},
		{outline{diamond(), whole(3, 0, -3, 0)}, hits(third, slant, -slant)},
		{outline{shifted(diamond(), 2), whole(3, 0, -3, 0)}, hits(third, slant, slant)},
		{outline{diamond(), whole(0, -2, 0, 0)}, hits(half, -slant, -slant)},
		{outline{shifted(diamond(), 1), whole(0, -2, 0, 0)}, hits(half, slant, -slant)},
		{outline{plate(), whole(1, -2, 3, 0)}, hits(half, 0, -one)},
		{outline{shifted(plate(), 3), whole(1, -2, 3, 0)}, hits(half, -one, 0)},
		{outline{plate(), whole(1, 2, 3, 0)}, hits(half, 0, one)},
		{outline{shifted(plate(), 3), whole(1, 2, 3, 0)}, hits(half, -one, 0)},
		// A corner on a straight edge.
		{outline{wholePath(0, 0, 2, 0, 4, 0, 4, 4, 0, 4), whole(2, -4, 2, 4)}, hits(half, 0, -one)},
		// At the end of the ray and at its start.
		{outline{diamond(), whole(-3, 0, -1, 0)}, hits(one, -slant, -slant)},
		{outline{diamond(), whole(-1, 0, 3, 0)}, hits(0, -slant, -slant)},
		{outline{shifted(diamond(), 1), whole(-1, 0, 3, 0)}, hits(0, -slant, slant)},
	})
}

// P18.2
func TestCastPolygonWithinTheRay(t *testing.T) {
	checkPolygons(t, []row[outline]{
		// It ends at the border, by the rounded fraction alone, and before it.
		{outline{plate(), whole(0, 0, 2, 0)}, hits(one, -one, 0)},
		{outline{plate(), line(-2*one, 0, 2*one-1, 0)}, hits(one, -one, 0)},
		{outline{plate(), line(0, 0, 2*one-1, 0)}, none},
		{outline{plate(), line(-2*one, 0, 2*one-3, 0)}, none},
		{outline{plate(), whole(0, 0, 1, 0)}, none},
		{outline{corner(), whole(4, 4, 2, 2)}, hits(one, slant, slant)},
		{outline{corner(), whole(4, 4, 3, 3)}, none},
		// It starts at the border, by the rounded fraction alone, and inside.
		{outline{plate(), whole(2, 0, 5, 0)}, hits(0, -one, 0)},
		{outline{plate(), whole(2, 0, 3, 0)}, hits(0, -one, 0)},
		{outline{plate(), line(2*one+1, 0, 5*one, 0)}, hits(0, -one, 0)},
		{outline{plate(), line(2*one+1, 0, 2*one+2, 0)}, none},
		{outline{plate(), line(2*one+3, 0, 5*one, 0)}, none},
		{outline{plate(), line(5*half, 0, 9*one, 0)}, none},
		{outline{plate(), line(5*half, 0, 0, 0)}, none},
		{outline{plate(), line(5*half, 0, 5*half, 9*one)}, none},
		{outline{plate(), line(5*half, 0, 5*half, one)}, none},
		{outline{corner(), whole(1, 1, 9, 9)}, none},
		// It starts at the border and leads away.
		{outline{plate(), whole(2, 0, 0, 0)}, none},
		{outline{plate(), whole(3, 0, 9, 0)}, none},
		// It points away.
		{outline{plate(), whole(0, 0, -4, 0)}, none},
		{outline{plate(), whole(5, 0, 9, 0)}, none},
		{outline{plate(), line(5*half, 2*one, 5*half, 4*one)}, none},
		{outline{corner(), whole(4, 4, 9, 9)}, none},
		// It passes by, and leaves before it enters.
		{outline{plate(), whole(0, 2, 4, 2)}, none},
		{outline{plate(), whole(1, 4, 9, 4)}, none},
		{outline{plate(), whole(0, 0, 4, 4)}, none},
		{outline{plate(), whole(4, 4, 0, 0)}, none},
		{outline{plate(), whole(0, -2, 3, -3)}, none},
		// Of two entries the earlier one lies before the exit.
		{outline{plate(), whole(0, -3, 4, 7)}, none},
		{outline{shifted(plate(), 1), whole(0, -3, 4, 7)}, none},
		{outline{shifted(plate(), 2), whole(0, -3, 4, 7)}, none},
		{outline{shifted(plate(), 3), whole(0, -3, 4, 7)}, none},
		{outline{plate(), whole(5, 0, 1, 4)}, none},
		{outline{corner(), whole(5, 0, 0, 5)}, none},
		{outline{diamond(), line(-2*one, half, -half, 2*one)}, none},
	})
}

// P18.2: at a corner alone the entry is equal to the exit.
func TestCastPolygonTouchesACorner(t *testing.T) {
	checkPolygons(t, []row[outline]{
		{outline{plate(), whole(0, -1, 4, 3)}, hits(half, -one, 0)},
		{outline{plate(), whole(4, 3, 0, -1)}, hits(half, 0, one)},
		{outline{plate(), whole(0, 1, 4, -3)}, hits(half, -one, 0)},
		{outline{plate(), whole(5, -1, 1, 3)}, hits(half, one, 0)},
		{outline{plate(), whole(5, -1, 2, 2)}, hits(43691, one, 0)},
		{outline{plate(), whole(4, 0, 2, 2)}, hits(half, one, 0)},
		{outline{plate(), whole(0, 1, 2, -1)}, hits(one, -one, 0)},
		{outline{plate(), whole(2, 1, 4, 3)}, hits(0, -one, 0)},
		{outline{diamond(), whole(-1, -1, -1, 1)}, hits(half, -slant, -slant)},
		{outline{diamond(), whole(-1, 1, -1, -1)}, hits(half, -slant, slant)},
		// Beside the corner the exit comes first, unless both round to the same fraction.
		{outline{plate(), line(0, 2-one, 4*one, 3*one+2)}, hits(half, -one, 0)},
		{outline{plate(), line(0, 3-one, 4*one, 3*one+3)}, none},
		{outline{plate(), line(0, -one-9, 4*one, 3*one-9)}, hits(half, -one, 0)},
	})
}

// P18.2
func TestCastPolygonAlongAnEdge(t *testing.T) {
	checkPolygons(t, []row[outline]{
		// Outside of the edge by one unit, on it, and inside by one unit.
		{outline{plate(), line(0, one+1, 4*one, one+1)}, none},
		{outline{plate(), line(0, one, 4*one, one)}, hits(half, -one, 0)},
		{outline{plate(), line(0, one-1, 4*one, one-1)}, hits(half, -one, 0)},
		{outline{plate(), line(0, -one-1, 4*one, -one-1)}, none},
		{outline{plate(), line(0, -one, 4*one, -one)}, hits(half, -one, 0)},
		{outline{plate(), line(4*one, 1-one, 2*one, 1-one)}, hits(half, one, 0)},
		{outline{plate(), line(2*one-1, 3*one, 2*one-1, -one)}, none},
		{outline{plate(), line(2*one, 3*one, 2*one, -one)}, hits(half, 0, one)},
		{outline{plate(), line(3*one, 3*one, 3*one, -one)}, hits(half, 0, one)},
		{outline{plate(), line(3*one+1, 3*one, 3*one+1, -one)}, none},
		// The edge it runs beside is the first one, the last one, and one between.
		{outline{shifted(plate(), 1), line(0, 2*one, 4*one, 2*one)}, none},
		{outline{shifted(plate(), 2), line(0, 2*one, 4*one, 2*one)}, none},
		{outline{shifted(plate(), 3), line(0, 2*one, 4*one, 2*one)}, none},
		// It ends before the polygon, or starts on the edge.
		{outline{plate(), whole(0, 1, 1, 1)}, none},
		{outline{plate(), line(5*half, one, 9*one, one)}, none},
		{outline{plate(), whole(2, 1, 4, 1)}, hits(0, -one, 0)},
		// A slanted edge.
		{outline{diamond(), whole(0, 2, -2, 0)}, none},
		{outline{diamond(), whole(1, 2, -3, -2)}, hits(fourth, slant, slant)},
		{outline{diamond(), whole(1, 2, -1, 0)}, hits(half, slant, slant)},
	})
}

// P18.2: by rounding, a short ray can be level with all edges but the one where it enters, so that there is no exit.
func TestCastPolygonWithoutAnExit(t *testing.T) {
	checkPolygons(t, []row[outline]{
		{outline{wedge(), line(-1, 0, 0, 0)}, hits(one, -one, 0)},
		{outline{wedge(), line(0, 0, 1, 0)}, hits(0, -one, 0)},
		{outline{wedge(), line(-2, 0, 2, 0)}, hits(half, -one, 0)},
		{outline{wedge(), line(-2, 0, -1, 0)}, none},
		{outline{wedge(), line(1, 0, 2, 0)}, none},
		{outline{wedge(), line(-1, 2*one, 0, 2*one)}, none},
		// Where it is level with no edge, even a ray of one unit has an exit.
		{outline{path(1, -one, one, -one, one, 0, 1, 0), line(0, 0, 1, 1)}, none},
		{outline{path(1, -one, one, -one, one, 0, 1, 0), line(0, -1, 1, 0)}, hits(one, -one, 0)},
		// Level with all edges there is no entry.
		{outline{wedge(), line(0, 0, 0, 0)}, none},
		{outline{wholePath(0, 0, 2, 1, 3, 3, 1, 2), line(one, one, one, one)}, none},
	})
}

// P18.2
func TestCastPolygonOfOddVertices(t *testing.T) {
	checkPolygons(t, []row[outline]{
		// An edge between vertices that coincide has no normal, and the ray meets no edge there.
		{outline{doubled(plate()), whole(0, 0, 4, 0)}, hits(half, -one, 0)},
		{outline{doubled(plate()), whole(0, 2, 4, 2)}, none},
		{outline{doubled(plate()), line(5*half, 0, 9*one, 0)}, none},
		{outline{doubled(plate()), whole(0, -1, 4, 3)}, hits(half, -one, 0)},
		{outline{wholePath(2, -1, 2, -1, 2, 1), whole(0, 0, 4, 0)}, hits(half, -one, 0)},
		{outline{wholePath(2, 0, 2, 0, 2, 0, 2, 0), whole(0, 0, 4, 0)}, none},
		{outline{wholePath(2, 0, 2, 0, 2, 0), whole(2, 0, 4, 0)}, none},
		// The region to the left of all edges is empty where the vertices run clockwise.
		{outline{backwards(plate()), whole(0, 0, 4, 0)}, none},
		{outline{backwards(plate()), line(5*half, 0, 9*one, 0)}, none},
		{outline{backwards(plate()), whole(0, 0, 4, 1)}, none},
		{outline{backwards(plate()), line(5*half, 0, 9*one, one)}, none},
		{outline{backwards(corner()), whole(4, 4, 0, 0)}, none},
		{outline{backwards(corner()), whole(1, 1, 5, 6)}, none},
		{outline{backwards(wheel()), whole(-7, -7, 7, 8)}, none},
		// Of a bent list it is what lies to the left of all edges.
		{outline{wholePath(0, 0, 4, 0, 4, 4, 2, 2, 0, 4), whole(2, -1, 2, 1)}, hits(half, 0, -one)},
		{outline{wholePath(0, 0, 4, 0, 4, 4, 2, 2, 0, 4), whole(-1, 1, 7, 1)}, hits(fourth, -slant, slant)},
		// A ray of length 0: outside, inside, on an edge and at a corner.
		{outline{plate(), whole(0, 0, 0, 0)}, none},
		{outline{plate(), line(5*half, 0, 5*half, 0)}, none},
		{outline{plate(), whole(2, 0, 2, 0)}, none},
		{outline{plate(), whole(2, -1, 2, -1)}, none},
		{outline{plate(), line(high, 0, far, 0)}, none},
	})
}

// P18.2
func TestCastPolygonFarAway(t *testing.T) {
	box := func(x, toX int) []api.Vec {
		return path(x, -one, toX, -one, toX, one, x, one)
	}
	everything := path(-far, -far, far, -far, far, far, -far, far)
	checkPolygons(t, []row[outline]{
		// Points are saturated.
		{outline{box(most-2*one, high), line(most-4*one, 0, far, 0)}, hits(half, -one, 0)},
		{outline{box(most-2*one, most), line(most-4*one, 0, high, 0)}, hits(half, -one, 0)},
		{outline{box(low, one-most), line(4*one-most, 0, low, 0)}, hits(3*fourth, one, 0)},
		{outline{box(most, high), line(most-4*one, 0, far, 0)}, hits(one, -one, 0)},
		{outline{path(far, far, high, far, high, high), line(0, 0, far, far)}, none},
		// Differences are saturated.
		{outline{everything, line(low, 0, 0, 0)}, hits(0, -one, 0)},
		{outline{everything, line(low, 0, high, 0)}, hits(0, -one, 0)},
		{outline{everything, line(0, high, 0, 0)}, hits(0, 0, one)},
		{outline{everything, line(0, 0, 0, high)}, none},
		{outline{plate(), line(low, 0, high, 0)}, hits(65536, -one, 0)},
		{outline{plate(), line(low, 0, 0, 0)}, hits(one, -one, 0)},
		{outline{plate(), line(high, 0, low, 0)}, hits(65512, one, 0)},
		{outline{box(most-one, most), line(-most, 0, most, 0)}, hits(one, -one, 0)},
		// A normal longer than One.
		{outline{path(-most, most, most, -most, most, most), line(-most, -most, most, most)}, hits(one, -one, -one)},
	})
}

// P18.3
func TestCastAtACircle(t *testing.T) {
	ball, aside := disc(one, 0, 0), disc(one, 2*one, 0)
	checkShapes(t, []row[aimed]{
		{aimed{ball, at(4*one, 0, 0), whole(0, 0, 6, 0)}, hits(half, -one, 0)},
		{aimed{ball, at(4*one, 0, 12345), whole(0, 0, 6, 0)}, hits(half, -one, 0)},
		{aimed{ball, at(10*one, 3*one, 0), whole(0, 3, 18, 3)}, hits(half, -one, 0)},
		{here(disc(5*one, 10*one, 3*one), whole(0, 0, 12, 0)), hits(half, -steep, -flat)},
		{here(ball, whole(-2, 1, 2, 1)), hits(half, 0, one)},
		{here(ball, line(-2*one, one+1, 2*one, one+1)), none},
		{here(ball, whole(2, 0, 4, 0)), none},
		{here(ball, whole(-4, 0, -2, 0)), none},
		{here(ball, whole(-4, 0, -1, 0)), hits(one, -one, 0)},
		// Moved and turned.
		{aimed{aside, at(0, 0, quarter), whole(0, 6, 0, 0)}, hits(half, 0, one)},
		{aimed{aside, at(0, 0, -quarter), whole(-4, -2, 4, -2)}, hits(24576, -one, 0)},
		{aimed{aside, at(5*one, one, -2*quarter), whole(0, 1, 4, 1)}, hits(half, -one, 0)},
		{aimed{aside, at(0, 0, quarter), whole(0, 0, 6, 0)}, none},
		// It starts inside, at the center, on the border, and one unit outside.
		{here(aside, line(5*half, half, 9*one, 0)), inside},
		{here(aside, whole(2, 0, 9, 0)), inside},
		{here(aside, whole(2, 0, 0, 0)), inside},
		{here(aside, whole(1, 0, 9, 0)), inside},
		{here(aside, whole(1, 0, -9, 0)), inside},
		{here(aside, whole(2, 1, 9, 1)), inside},
		{here(aside, line(one-1, 0, 9*one, 0)), hits(0, -one, 0)},
		{here(aside, line(one-1, 0, -9*one, 0)), none},
		{aimed{aside, at(0, 0, quarter), whole(0, 2, 9, 0)}, inside},
		// A ray of length 0.
		{here(aside, whole(2, 0, 2, 0)), inside},
		{here(aside, whole(3, 0, 3, 0)), inside},
		{here(aside, line(3*one+1, 0, 3*one+1, 0)), none},
		{here(aside, whole(0, 0, 0, 0)), none},
	})
}

// P18.3
func TestCastAtAPolygon(t *testing.T) {
	s, d := block(), api.Shape{Kind: api.Polygon, Vertices: diamond()}
	checkShapes(t, []row[aimed]{
		{here(s, whole(-4, 2, 4, 2)), hits(half, -one, 0)},
		{here(s, whole(2, -1, 2, 1)), hits(half, 0, -one)},
		{here(s, whole(8, 1, 0, 1)), hits(half, one, 0)},
		{here(s, whole(3, 5, 3, 1)), hits(fourth, 0, one)},
		{here(s, whole(-4, 5, 4, 5)), none},
		{here(s, whole(-4, 2, -1, 2)), none},
		{here(s, whole(-4, 2, 0, 2)), hits(one, -one, 0)},
		{here(s, whole(5, 2, 9, 2)), none},
		{here(s, whole(-2, 2, 2, 6)), hits(half, -one, 0)},
		{here(d, whole(-3, 0, 3, 0)), hits(third, -slant, -slant)},
		// Moved and turned.
		{aimed{s, at(4*one, 0, 0), whole(0, 2, 8, 2)}, hits(half, -one, 0)},
		{aimed{s, at(0, 0, quarter), whole(-8, 2, 0, 2)}, hits(half, -one, 0)},
		{aimed{s, at(0, 0, quarter), whole(2, 2, -2, 2)}, hits(half, one, 0)},
		{aimed{s, at(0, 0, quarter), whole(2, -2, 2, 6)}, none},
		{aimed{s, at(0, 0, -2*quarter), whole(0, -8, 0, 0)}, hits(half, 0, -one)},
		{aimed{s, at(-one, 5*one, -quarter), whole(2, 7, 2, 3)}, hits(half, 0, one)},
		{aimed{s, at(0, 0, quarter/2), whole(-4, 4, 4, 4)}, hits(19195, -slant, slant)},
		{aimed{d, at(0, 0, quarter/2), whole(-3, 0, 3, 0)}, hits(25045, -one, 0)},
		// It starts inside, in the middle, on an edge, at a corner, and one unit outside.
		{here(s, whole(1, 3, 9, 9)), inside},
		{here(s, whole(2, 2, 9, 2)), inside},
		{here(s, whole(0, 2, 9, 2)), inside},
		{here(s, whole(0, 2, -9, 2)), inside},
		{here(s, whole(0, 0, 9, 9)), inside},
		{here(s, whole(0, 0, -9, -9)), inside},
		{here(s, whole(4, 0, 9, 0)), inside},
		{here(s, whole(4, 4, 9, 0)), inside},
		{here(s, whole(0, 4, 0, 9)), inside},
		{here(s, line(-1, 2*one, 9*one, 2*one)), hits(0, -one, 0)},
		{here(s, line(-1, 2*one, -9*one, 2*one)), none},
		{here(s, line(-1, -1, 9*one, 9*one)), hits(0, 0, -one)},
		{aimed{s, at(0, 0, quarter), whole(-2, 2, 9, 9)}, inside},
		// A ray of length 0.
		{here(s, whole(2, 2, 2, 2)), inside},
		{here(s, whole(0, 0, 0, 0)), inside},
		{here(s, line(0, -1, 0, -1)), none},
		{here(s, whole(5, 5, 5, 5)), none},
	})
}

// P18.3
func TestCastAtACapsule(t *testing.T) {
	b := bar()
	checkShapes(t, []row[aimed]{
		// Along the axis, from both ends.
		{here(b, whole(-3, 0, 1, 0)), hits(28672, -one, 0)},
		{here(b, whole(3, 0, -1, 0)), hits(28672, one, 0)},
		{here(b, whole(-3, 0, 9, 0)), hits(9557, -one, 0)},
		{here(wholePill(fourth, 1, 0, -1, 0), whole(-3, 0, 1, 0)), hits(28672, -one, 0)},
		{here(wholePill(fourth, 1, 0, -1, 0), whole(3, 0, -1, 0)), hits(28672, one, 0)},
		// Both sides, at the middle and elsewhere.
		{here(b, whole(0, 2, 0, -2)), hits(28672, 0, one)},
		{here(b, whole(0, -2, 0, 2)), hits(28672, 0, -one)},
		{here(b, line(half, -2*one, half, 2*one)), hits(28672, 0, -one)},
		{here(b, line(-half, 3*fourth, half, -fourth)), hits(half, 0, one)},
		{here(wholePill(fourth, 1, 0, -1, 0), whole(0, 2, 0, -2)), hits(28672, 0, one)},
		{here(wholePill(fourth, 1, 0, -1, 0), whole(0, -2, 0, 2)), hits(28672, 0, -one)},
		// The first cap aside of the axis.
		{here(wholePill(5*eighth, -1, 0, 1, 0), line(-one-3*eighth, 5*half, -one-3*eighth, -3*half)), hits(half, -flat, steep)},
		{here(wholePill(5*eighth, -1, 0, 1, 0), line(-one-3*eighth, -5*half, -one-3*eighth, 3*half)), hits(half, -flat, -steep)},
		{here(wholePill(5*eighth, -1, 0, 1, 0), line(-2*one, 3*eighth, -one, 3*eighth)), hits(half, -steep, flat)},
		// The second cap.
		{here(wholePill(5*eighth, -1, 0, 1, 0), line(one+3*eighth, 5*half, one+3*eighth, -3*half)), hits(half, flat, steep)},
		{here(wholePill(5*eighth, -1, 0, 1, 0), line(one+3*eighth, -5*half, one+3*eighth, 3*half)), hits(half, flat, -steep)},
		{here(wholePill(5*eighth, -1, 0, 1, 0), line(2*one, -3*eighth, one, -3*eighth)), hits(half, steep, -flat)},
		// At a tangent: beside the sides and the caps, and one unit beyond.
		{here(b, line(-2*one, fourth, 2*one, fourth)), hits(16384, 0, one)},
		{here(b, line(2*one, -fourth, -2*one, -fourth)), hits(16384, 0, -one)},
		{here(b, line(-2*one, fourth+1, 2*one, fourth+1)), none},
		{here(b, line(5*fourth, one, 5*fourth, -one)), hits(half, one, 0)},
		{here(b, line(5*fourth+1, one, 5*fourth+1, -one)), none},
		{here(b, line(-5*fourth, one, -5*fourth, -one)), hits(half, -one, 0)},
		// Away, too short, and by.
		{here(b, whole(0, 2, 0, 4)), none},
		{here(b, whole(0, 2, 0, 1)), none},
		{here(b, line(0, 2*one, 0, fourth)), hits(one, 0, one)},
		{here(b, line(0, 2*one, 0, fourth+1)), none},
		{here(b, whole(-3, 1, 3, 1)), none},
		{here(b, whole(-3, 0, -2, 0)), none},
		// Slanted, moved and turned.
		{here(wholePill(half, 0, 0, 3, 4), whole(-6, -8, 0, 0)), hits(62260, -flat, -steep)},
		{here(wholePill(one, 0, 0, 3, 4), line(3*half+8*one, 2*one-6*one, 3*half, 2*one)), hits(58982, steep, -flat)},
		{aimed{b, at(0, 0, quarter), whole(0, 3, 0, -1)}, hits(28672, 0, one)},
		{aimed{b, at(0, 0, quarter), whole(2, 0, -2, 0)}, hits(28672, one, 0)},
		{aimed{b, at(4*one, 0, 0), whole(0, 0, 4, 0)}, hits(45056, -one, 0)},
		{aimed{b, at(one, one, -quarter), whole(1, -2, 1, 2)}, hits(28672, 0, -one)},
	})
}

// P18.3
func TestCastFromACapsule(t *testing.T) {
	b := bar()
	checkShapes(t, []row[aimed]{
		// Inside, at the middle, at the ends of the axis, and on the border.
		{here(b, whole(0, 0, 9, 0)), inside},
		{here(b, line(half, eighth, 9*one, 0)), inside},
		{here(b, whole(1, 0, 9, 0)), inside},
		{here(b, whole(-1, 0, 9, 0)), inside},
		{here(b, line(9*eighth, 0, 0, 0)), inside},
		{here(b, line(0, fourth, 0, -9*one)), inside},
		{here(b, line(0, -fourth, 0, -9*one)), inside},
		{here(b, line(5*fourth, 0, 0, 0)), inside},
		{here(b, line(-5*fourth, 0, 0, 0)), inside},
		{aimed{b, at(0, 0, quarter), whole(0, 1, 9, 1)}, inside},
		// One unit outside.
		{here(b, line(0, fourth+1, 0, -9*one)), hits(0, 0, one)},
		{here(b, line(0, fourth+1, 0, 9*one)), none},
		{here(b, line(5*fourth+1, 0, -9*one, 0)), hits(0, one, 0)},
		{here(b, line(-5*fourth-1, 0, 9*one, 0)), hits(0, -one, 0)},
		// Between the corner of its box and the cap.
		{here(b, line(5*fourth, fourth, 0, fourth)), hits(13107, 0, one)},
		// A ray of length 0.
		{here(b, whole(0, 0, 0, 0)), inside},
		{here(b, line(0, fourth, 0, fourth)), inside},
		{here(b, line(0, fourth+1, 0, fourth+1)), none},
		{here(b, whole(3, 3, 3, 3)), none},
	})
}

// P18.3: of equal fractions the first cap comes first, then the second cap, then the sides.
func TestCastWhereACapAndASideMeet(t *testing.T) {
	b, thick := bar(), pill(api.MaxRadius, 0, -2048, 0, 2048)
	checkShapes(t, []row[aimed]{
		{here(b, whole(1, 2, 1, -2)), hits(28672, 0, one)},
		{here(b, whole(-1, 2, -1, -2)), hits(28672, 0, one)},
		// On so long a ray both caps and the side have the same fraction, but other normals.
		{here(thick, whole(-4000, 0, 4000, 0)), hits(32702, -one, 254)},
		{here(pill(api.MaxRadius, 0, 2048, 0, -2048), whole(-4000, 0, 4000, 0)), hits(32702, -one, -254)},
		{here(thick, whole(4000, 0, -4000, 0)), hits(32702, one, 254)},
		// One cap alone has the same fraction as the side.
		{here(pill(api.MaxRadius, 0, -2048, 0, 4*one), whole(-4000, 0, 4000, 0)), hits(32702, -one, 254)},
		{here(pill(api.MaxRadius, 0, -4*one, 0, 2048), whole(-4000, 0, 4000, 0)), hits(32702, -one, -254)},
		// Neither has: the side alone is met.
		{here(pill(api.MaxRadius, 0, -4*one, 0, 4*one), whole(-4000, 0, 4000, 0)), hits(32702, -one, 0)},
	})
}

// P18.3: cores and rays are saturated.
func TestCastFarAway(t *testing.T) {
	s, c, b, long := block(), disc(one, 0, 0), bar(), wholePill(fourth, 0, 0, 2, 0)
	checkShapes(t, []row[aimed]{
		{aimed{c, at(most, 0, 0), line(most-4*one, 0, high, 0)}, hits(49152, -one, 0)},
		{aimed{c, at(high, low, 0), line(most-4*one, low, high, -far)}, hits(49152, -one, 0)},
		{aimed{c, at(high, 0, 0), line(far, 0, 0, 0)}, inside},
		{aimed{c, at(0, 0, 0), line(low, 0, high, 0)}, hits(65528, -one, 0)},
		{aimed{c, at(0, 0, 0), line(high, high, low, low)}, hits(46335, slant, slant)},
		// A polygon that shrinks to a segment is met on its line.
		{aimed{s, at(most, 0, 0), line(0, one, high, one)}, hits(one, -one, 0)},
		{aimed{s, at(most, 0, 0), line(most-4*one, 9*one, high, 9*one)}, hits(one, -one, 0)},
		{aimed{s, at(most, 0, 0), line(most-4*one, 9*one, most-2*one, 9*one)}, none},
		{aimed{s, at(most-2*one, 0, 0), line(most-6*one, one, far, one)}, hits(43691, -one, 0)},
		{aimed{s, at(low, 0, 0), line(8*one-most, one, low, one)}, hits(half, one, 0)},
		// One that shrinks to a point contains every point.
		{aimed{s, at(high, far, 0), whole(0, 0, 4, 0)}, inside},
		{aimed{s, at(high, far, 0), line(high, low, 5, 6)}, inside},
		// A capsule that shrinks to a point has caps only, and one whose axis is shorter has sides.
		{aimed{long, at(high, 0, 0), line(most-4*one, 0, most, 0)}, hits(61440, -one, 0)},
		{aimed{long, at(high, 0, 0), line(most, 4*one, most, 0)}, hits(61440, 0, one)},
		{aimed{long, at(high, 0, 0), line(most-fourth-1, 4*one, most-fourth-1, 0)}, none},
		{aimed{b, at(high, 0, 0), line(most-4*one, 0, most, 0)}, hits(45056, -one, 0)},
		{aimed{b, at(most, 0, 0), line(most-half, 4*one, most-half, 0)}, hits(61440, 0, one)},
		{aimed{b, at(low, 0, 0), line(low, -4*one, low, 0)}, hits(61440, 0, -one)},
		// At the limits of the world nothing is saturated.
		{aimed{s, at(world-4*one, world-4*one, 0), line(world-8*one, world-one, world, world-one)}, hits(half, -one, 0)},
		{aimed{c, at(-world, world, 0), line(-world, world-2*one, -world, world)}, hits(half, 0, -one)},
	})
}

// invalidShapes are shapes of each kind with each fault.
func invalidShapes() []api.Shape {
	kind := func(kind api.ShapeKind, s api.Shape) api.Shape {
		s.Kind = kind
		return s
	}
	radius := func(radius int, s api.Shape) api.Shape {
		s.Radius = radius
		return s
	}
	return []api.Shape{
		{}, {Kind: api.Circle}, {Kind: api.Capsule}, {Kind: api.Polygon}, {Vertices: path(0, 0)},
		kind(0, disc(one, 0, 0)), kind(4, bar()), kind(-1, block()), kind(far, block()),
		kind(api.Capsule, disc(one, 0, 0)), kind(api.Polygon, disc(one, 0, 0)), kind(api.Circle, bar()), kind(api.Polygon, bar()), kind(api.Circle, block()), kind(api.Capsule, block()),
		disc(api.MinRadius-1, 0, 0), disc(api.MaxRadius+1, 0, 0), disc(0, 0, 0), disc(-one, 0, 0), disc(low, 0, 0), disc(high, 0, 0), disc(one, limit+1, 0), disc(one, 0, low),
		radius(one, poly(0, 0)), {Kind: api.Circle, Radius: one, Vertices: path(0, 0, one, 0)},
		radius(api.MinRadius-1, bar()), radius(api.MaxRadius+1, bar()), radius(0, bar()), pill(half, 0, 0, 0, limit+1), pill(half, 0, 0, api.MinEdgeLength-1, 0), pill(half, 7, 7, 7, 7), pill(half, 0, 0), pill(half, 0, 0, one, 0, 2*one, 0),
		radius(1, block()), radius(-1, block()), radius(one, block()), wholePoly(0, 0, 4, 0), wholePoly(0, 0, 17, 0, 17, 4, 0, 4),
		{Kind: api.Polygon, Vertices: backwards(block().Vertices)}, wholePoly(0, 0, 2, 0, 4, 0, 4, 4, 0, 4), wholePoly(0, 0, 4, 0, 1, 1, 0, 4), wholePoly(0, 0, 0, 0, 0, 0), poly(0, 0, api.MinEdgeLength-1, 0, 0, 8192), poly(0, 0, 8192, 0, 4096, 4080),
		wholePoly(0, 0, 2, 0, 4, 1, 5, 2, 5, 4, 4, 5, 2, 5, 1, 4, 0, 2),
	}
}

// P18.3: an invalid shape is never met, wherever it is, even where the ray starts at its vertices.
func TestCastAtInvalidShapes(t *testing.T) {
	for _, s := range invalidShapes() {
		for _, place := range []api.Transform{at(0, 0, 0), at(one, -one, quarter), at(high, low, far)} {
			rays := []ray{whole(-9, 0, 9, 0), whole(-9, 1, 9, 2), whole(2, 9, 2, -9), whole(0, 0, 0, 0), line(low, 0, high, 0), line(high, low, 0, 0)}
			for _, v := range s.Vertices {
				v = plus(v, place.Position)
				rays = append(rays, ray{v, v}, ray{v, vec(0, 0)}, ray{v, vec(9*one, 9*one)}, ray{minus(v, vec(2*one, 0)), v})
			}
			for _, r := range rays {
				if got := cast(aimed{s, place, r}); got != none {
					t.Errorf("the cast of %v at %v, placed at %v, = %v, want %v", r, s, place, got, none)
				}
			}
		}
	}
}
