package toi_test

import (
	"math"
	"slices"
	"testing"

	"carom/api"
	"carom/shape"
	"carom/toi"
	"carom/transform"
)

const (
	one      = api.One
	half     = api.One / 2
	fourth   = api.One / 4
	slop     = api.LinearSlop
	least    = api.MinRadius
	greatest = api.MaxRadius
	limit    = api.MaxCoordinate
	world    = api.WorldLimit
	most     = api.MaxValue
	quarter  = api.HalfPi
	far      = 1 << 40
	low      = math.MinInt
	high     = math.MaxInt
)

// travel is a shape that moves from one transform to another.
type travel struct {
	s        api.Shape
	from, to api.Transform
}

// boundRow is a row of a table for MotionBound: the arguments and the bound that the chapter asks for.
type boundRow struct {
	args travel
	want int
}

func vec(x, y int) api.Vec {
	return api.Vec{X: x, Y: y}
}

func plus(a, b api.Vec) api.Vec {
	return vec(a.X+b.X, a.Y+b.Y)
}

func minus(a, b api.Vec) api.Vec {
	return vec(a.X-b.X, a.Y-b.Y)
}

// path makes vertices of pairs of coordinates.
func path(coordinates ...int) []api.Vec {
	var list []api.Vec
	for i := 0; i+1 < len(coordinates); i += 2 {
		list = append(list, vec(coordinates[i], coordinates[i+1]))
	}
	return list
}

func at(x, y, angle int) api.Transform {
	return api.Transform{Position: vec(x, y), Angle: angle}
}

func disc(radius, x, y int) api.Shape {
	return api.Shape{Kind: api.Circle, Radius: radius, Vertices: path(x, y)}
}

func pill(radius int, ends ...int) api.Shape {
	return api.Shape{Kind: api.Capsule, Radius: radius, Vertices: path(ends...)}
}

func poly(coordinates ...int) api.Shape {
	return api.Shape{Kind: api.Polygon, Vertices: path(coordinates...)}
}

// whole is the shape with coordinates that were given in whole units.
func whole(s api.Shape) api.Shape {
	for i, v := range s.Vertices {
		s.Vertices[i] = vec(v.X*one, v.Y*one)
	}
	return s
}

func ball() api.Shape {
	return disc(one, 0, 0)
}

// pebble is the smallest circle.
func pebble() api.Shape {
	return disc(least, 0, 0)
}

// bar is the capsule from (-1, 0) to (1, 0).
func bar() api.Shape {
	return whole(pill(fourth, -1, 0, 1, 0))
}

// arm is a capsule that reaches from the origin to the right.
func arm() api.Shape {
	return whole(pill(fourth, 0, 0, 8, 0))
}

// thin is the capsule with the smallest radius and the ends that are given in whole units.
func thin(ends ...int) api.Shape {
	return whole(pill(least, ends...))
}

// block is the square with side 4 and a corner at the origin.
func block() api.Shape {
	return whole(poly(0, 0, 4, 0, 4, 4, 0, 4))
}

// plate is a rectangle as thin as can be.
func plate() api.Shape {
	return poly(0, -8*one, 4096, -8*one, 4096, 8*one, 0, 8*one)
}

// wedge is a triangle.
func wedge() api.Shape {
	return whole(poly(0, 0, 3, 0, 0, 4))
}

// diamond is a square with corners to the left, below, to the right and above.
func diamond() api.Shape {
	return whole(poly(-1, 0, 0, -1, 1, 0, 0, 1))
}

// ring is an octagon around (3, 3).
func ring() api.Shape {
	return whole(poly(2, 0, 4, 0, 6, 2, 6, 4, 4, 6, 2, 6, 0, 4, 0, 2))
}

func travels(s api.Shape, from, to api.Transform) travel {
	return travel{s, from, to}
}

// still leaves the shape at (x, y).
func still(s api.Shape, x, y int) travel {
	return travel{s, at(x, y, 0), at(x, y, 0)}
}

// moves carries the shape from one point to another.
func moves(s api.Shape, fromX, fromY, toX, toY int) travel {
	return travel{s, at(fromX, fromY, 0), at(toX, toY, 0)}
}

// turns turns the shape at (x, y) from one angle to another.
func turns(s api.Shape, x, y, from, to int) travel {
	return travel{s, at(x, y, from), at(x, y, to)}
}

// back is the travel in the other direction.
func (m travel) back() travel {
	return travel{m.s, m.to, m.from}
}

func motionBound(m travel) int {
	return toi.MotionBound(m.s, m.from, m.to)
}

// checkBounds holds MotionBound and the oracle against the rows, and against the rows in the other direction.
func checkBounds(t *testing.T, rows []boundRow) {
	t.Helper()
	for _, r := range rows {
		for _, m := range []travel{r.args, r.args.back()} {
			if got := motionBound(m); got != r.want {
				t.Errorf("MotionBound%v = %d, want %d", m, got, r.want)
			}
			if expected := wantBound(m); expected != r.want {
				t.Errorf("MotionBound%v: the oracle says %d, the row %d", m, expected, r.want)
			}
		}
	}
}

// P19.1: what does not move at all still has a bound.
func TestMotionBoundOfShapesAtRest(t *testing.T) {
	checkBounds(t, []boundRow{
		{still(ball(), 3*one, -one), 4},
		{still(bar(), 0, 0), 4},
		{still(block(), one, one), 4},
		{travels(wedge(), at(7, 8, 9), at(7, 8, 9)), 4},
		{still(disc(least, limit, limit), 0, 0), 4},
		{still(ring(), world, -world), 4},
	})
}

// P19.1
func TestMotionBoundOfWays(t *testing.T) {
	checkBounds(t, []boundRow{
		// Along an axis.
		{moves(ball(), 0, 0, 3*one, 0), 3*one + 4},
		{moves(ball(), 3*one, 0, 0, 0), 3*one + 4},
		{moves(bar(), 0, 5*one, 0, -5*one), 10*one + 4},
		{moves(block(), -one, one, -one, one+1), 1 + 4},
		{moves(block(), 4, 0, 3, 0), 1 + 4},
		{moves(plate(), -world+1, 0, world, 0), most},
		// Aslant, the length rounded down.
		{moves(ball(), 0, 0, 3*one, 4*one), 5*one + 4},
		{moves(bar(), 7*one, 7*one, 2*one, -5*one), 13*one + 4},
		{moves(wedge(), one, 0, 0, one), 92681 + 4},
		{moves(block(), 0, 0, 1, 1), 1 + 4},
		{moves(block(), 0, 0, -2, 2), 2 + 4},
		{moves(ring(), 0, 0, 1, -2), 2 + 4},
		{moves(ball(), 0, 0, one, one), 92681 + 4},
	})
}

// P19.1
func TestMotionBoundOfTurns(t *testing.T) {
	checkBounds(t, []boundRow{
		// To the left and to the right.
		{turns(ball(), 0, 0, 0, one), one + 4},
		{turns(ball(), 0, 0, 0, -one), one + 4},
		{turns(ball(), one, -one, 100, 300), 200 + 4},
		{turns(ball(), one, -one, 300, 100), 200 + 4},
		{turns(bar(), 0, 0, 0, quarter), 5*quarter/4 + 4},
		{turns(bar(), 0, 0, quarter, 0), 5*quarter/4 + 4},
		{turns(block(), 0, 0, -quarter, quarter/2), 873511},
		{turns(diamond(), 0, 0, quarter, -quarter/2), 3*quarter/2 + 4},
		{turns(wedge(), 0, 0, 0, 1000), 4000 + 4},
		{turns(disc(half, 3*one, 4*one), 0, 0, 0, 1000), 5500 + 4},
		{turns(disc(half, 3*one, -4*one), 0, 0, 0, -1000), 5500 + 4},
		{turns(disc(greatest, limit, -limit), 0, 0, 0, 2*quarter), 6305820},
		// By a half turn, and by one unit less.
		{turns(ball(), 0, 0, 0, 2*quarter), 2*quarter + 4},
		{turns(ball(), 0, 0, 0, -2*quarter), 2*quarter + 4},
		{turns(ball(), 0, 0, -quarter, quarter), 2*quarter + 4},
		{turns(arm(), 0, 0, quarter, -quarter), 33*quarter/2 + 4},
		{turns(arm(), 0, 0, quarter, 1-quarter), 1698568 + 4},
		{turns(arm(), 0, 0, 1-quarter, quarter), 1698568 + 4},
		// By more than a half turn it is the rest of a turn.
		{turns(ball(), 0, 0, -quarter, quarter+1000), 2*quarter - 1000 + 4},
		{turns(ball(), 0, 0, 3*quarter/2, -3*quarter/2), quarter + 4},
		// Across the ends of the range of the angles.
		{turns(ball(), 0, 0, 2*quarter-100, 100-2*quarter), 200 + 4},
		{turns(ball(), 0, 0, 100-2*quarter, 2*quarter-100), 200 + 4},
		{turns(ball(), 0, 0, 2*quarter-1, -2*quarter), 1 + 4},
		{turns(ring(), 0, 0, -2*quarter, 2*quarter-7), 50 + 4},
		// The product is rounded to the nearest, halves away from zero: a half, less than a half, and 1.5.
		{turns(disc(half, 0, 0), 0, 0, 0, 1), 1 + 4},
		{turns(disc(half, 0, 0), 0, 0, 1, 0), 1 + 4},
		{turns(disc(half-1, 0, 0), 0, 0, 0, 1), 4},
		{turns(disc(half, 0, 0), 0, 0, 0, 3), 2 + 4},
		{turns(disc(half, 0, 0), 0, 0, 0, -3), 2 + 4},
	})
}

// P19.1
func TestMotionBoundOfWaysAndTurns(t *testing.T) {
	checkBounds(t, []boundRow{
		{travels(ball(), at(0, 0, 0), at(3*one, 4*one, one)), 6*one + 4},
		{travels(ball(), at(0, 0, 0), at(-3*one, 4*one, -one)), 6*one + 4},
		{travels(bar(), at(one, 0, quarter), at(0, 0, -quarter)), one + 5*quarter/2 + 4},
		{travels(block(), at(0, 0, 0), at(5, 12, 100)), 579 + 4},
		{travels(wedge(), at(0, 9*one, -3), at(0, 0, 4)), 9*one + 28 + 4},
	})
}

// P19.1: transforms that are not valid are used as they are.
func TestMotionBoundOfInvalidTransforms(t *testing.T) {
	checkBounds(t, []boundRow{
		{travels(ball(), at(0, 0, 4*quarter), at(0, 0, 5*quarter)), quarter + 4},
		{travels(ball(), at(0, 0, 2*quarter), at(0, 0, -2*quarter)), 4},
		{travels(ball(), at(0, 0, -401*quarter), at(0, 0, 402*quarter)), quarter + 4},
		{travels(ball(), at(0, 0, low), at(0, 0, high)), 107395},
		{travels(ball(), at(0, 0, high), at(0, 0, low)), 107395},
		{travels(ball(), at(0, 0, high), at(0, 0, high)), 4},
		{moves(ball(), 0, 0, world+one, 0), 4097*one + 4},
		{moves(ball(), world, 0, world+5*one, 12*one), 13*one + 4},
		// Positions are saturated.
		{moves(ball(), high, 0, high, 0), 4},
		{moves(ball(), high, low, far, -far), 4},
		{moves(ball(), most, 0, far, 0), 4},
		{moves(ball(), most-9, 0, high, 0), 9 + 4},
		{moves(ball(), 0, -far, 0, 5-most), 5 + 4},
	})
}

// P19.1
func TestMotionBoundSaturates(t *testing.T) {
	checkBounds(t, []boundRow{
		// The way between the limits of the world is saturated.
		{moves(ball(), -world, 0, world, 0), most},
		{moves(ball(), 0, world, 0, -world), most},
		{moves(ball(), low, 0, high, 0), most},
		// The way of saturated components is longer than a saturated number.
		{moves(ball(), -world, -world, world, world), most},
		{moves(ball(), low, high, high, low), most},
		{moves(ball(), 0, 0, most, most), most},
		{moves(ball(), 0, 0, world+world/2, world+world/2), most},
		// The sum is saturated.
		{moves(ball(), 0, 0, most-5, 0), most - 1},
		{moves(ball(), 0, 0, most-4, 0), most},
		{moves(ball(), 0, 0, most-3, 0), most},
		{moves(ball(), 0, 0, most, 0), most},
		{travels(ball(), at(0, 0, 0), at(most-one-5, 0, one)), most - 1},
		{travels(ball(), at(0, 0, 0), at(most-one-4, 0, one)), most},
		{travels(ball(), at(0, 0, 0), at(most-one-3, 0, one)), most},
		{travels(ball(), at(0, 0, 0), at(most-2, 0, 3)), most},
		{travels(arm(), at(low, low, low), at(high, high, high)), most},
	})
}

// invalidShapes are shapes of each kind with each fault.
func invalidShapes() []api.Shape {
	kind := func(kind api.ShapeKind, s api.Shape) api.Shape {
		s.Kind = kind
		return s
	}
	radius := func(radius int, s api.Shape) api.Shape {
		s.Radius = radius
		return s
	}
	backwards := block()
	slices.Reverse(backwards.Vertices)
	return []api.Shape{
		{}, {Kind: api.Circle}, {Kind: api.Capsule}, {Kind: api.Polygon}, {Vertices: path(0, 0)},
		kind(0, ball()), kind(4, bar()), kind(-1, block()), kind(far, block()),
		kind(api.Capsule, ball()), kind(api.Polygon, ball()), kind(api.Circle, bar()), kind(api.Polygon, bar()), kind(api.Circle, block()), kind(api.Capsule, block()),
		radius(least-1, ball()), radius(greatest+1, ball()), radius(0, ball()), radius(-one, ball()), radius(low, ball()), radius(high, ball()), disc(one, limit+1, 0), disc(one, 0, low),
		{Kind: api.Circle, Radius: one, Vertices: path(0, 0, one, 0)},
		radius(least-1, bar()), radius(greatest+1, bar()), radius(0, bar()), pill(half, 0, 0, 0, limit+1), pill(half, 0, 0, api.MinEdgeLength-1, 0), pill(half, 7, 7, 7, 7), pill(half, 0, 0), pill(half, 0, 0, one, 0, 2*one, 0),
		radius(1, block()), radius(-1, block()), radius(one, block()), whole(poly(0, 0, 4, 0)), whole(poly(0, 0, 17, 0, 17, 4, 0, 4)),
		backwards, whole(poly(0, 0, 2, 0, 4, 0, 4, 4, 0, 4)), whole(poly(0, 0, 4, 0, 1, 1, 0, 4)), whole(poly(0, 0, 0, 0, 0, 0)), poly(0, 0, api.MinEdgeLength-1, 0, 0, 8192), poly(0, 0, 8192, 0, 4096, 4080),
		whole(poly(0, 0, 2, 0, 4, 1, 5, 2, 5, 4, 4, 5, 2, 5, 1, 4, 0, 2)),
	}
}

// P19.1: an invalid shape has the bound 0, however it moves.
func TestMotionBoundOfInvalidShapes(t *testing.T) {
	for _, bad := range invalidShapes() {
		for _, m := range []travel{still(bad, 0, 0), moves(bad, 0, 0, 3*one, 0), turns(bad, 0, 0, 0, one), {bad, at(low, low, low), at(high, high, high)}} {
			if got := motionBound(m); got != 0 {
				t.Errorf("MotionBound%v = %d, want 0", m, got)
			}
		}
	}
}

// rides are the travels of all samples.
func rides() []travel {
	var list []travel
	for _, m := range motions() {
		list = append(list, m.a, m.b)
	}
	dice := newDice(4)
	for range 20000 {
		s := dice.shape()
		list = append(list, travel{s, dice.anyTransform(), dice.anyTransform()}, turns(s, 0, 0, dice.anyNumber(), dice.anyNumber()), moves(s, dice.number(most), dice.number(most), dice.number(most), dice.number(most)))
	}
	return list
}

// P19.1
func TestMotionBoundOfSamples(t *testing.T) {
	counts := map[string]int{}
	for _, m := range rides() {
		got, want := motionBound(m), wantBound(m)
		if got != want {
			t.Fatalf("MotionBound%v = %d, want %d", m, got, want)
		}
		if back := motionBound(m.back()); back != got {
			t.Fatalf("MotionBound%v = %d, but on the way back %d", m, got, back)
		}
		switch got {
		case 0:
			counts["invalid"]++
		case 4:
			counts["at rest"]++
		case most:
			counts["saturated"]++
		default:
			counts["on the way"]++
		}
	}
	for _, name := range []string{"invalid", "at rest", "saturated", "on the way"} {
		if counts[name] < 300 {
			t.Errorf("only %d samples are %s", counts[name], name)
		}
	}
}

// P19.1: no vertex gets farther from its start than the bound says, up to the errors of the sine, which is off by 1 percent in its slope, and of rotations, which are rounded.
func TestMotionBoundsAreTrue(t *testing.T) {
	for _, m := range meetings() {
		for _, ride := range []travel{m.a, m.b} {
			bound := 1.01*float64(motionBound(ride)) + 64
			for time := 0; time <= one; time += one / 8 {
				start, now := shape.Vertices(ride.s, ride.from), shape.Vertices(ride.s, transform.Interpolate(ride.from, ride.to, time))
				for i, v := range start {
					way := minus(now[i], v)
					if got := math.Hypot(float64(way.X), float64(way.Y)); got > bound {
						t.Fatalf("MotionBound%v = %d, but at the time %d vertex %d is %v away from its start", ride, motionBound(ride), time, i, got)
					}
				}
			}
		}
	}
}

// P19.1, P19.2: shapes stay as they are, with what lies behind the length of their vertices.
func TestShapesStayAsTheyAre(t *testing.T) {
	behind := path(5, 6, 7, 8)
	shapes := append(invalidShapes(), ball(), bar(), block(), diamond(), ring(), wedge())
	for _, a := range shapes {
		for _, b := range shapes {
			first, second := slices.Concat(a.Vertices, behind), slices.Concat(b.Vertices, behind)
			firstBefore, secondBefore := slices.Clone(first), slices.Clone(second)
			a.Vertices, b.Vertices = first[:len(a.Vertices)], second[:len(b.Vertices)]
			from, to := at(-9*one, 6, 7), at(9*one, one, quarter)
			toi.TimeOfImpact(a, from, to, b, to, from)
			toi.MotionBound(a, from, to)
			toi.MotionBound(b, from, to)
			if !slices.Equal(first, firstBefore) || !slices.Equal(second, secondBefore) {
				t.Fatalf("the vertices %v and %v are changed to %v and %v", firstBefore, secondBefore, first, second)
			}
		}
	}
}
