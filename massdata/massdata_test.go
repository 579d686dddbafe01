package massdata_test

import (
	"math"
	"reflect"
	"slices"
	"testing"

	"carom/api"
	"carom/massdata"
)

const (
	one     = api.One
	half    = api.One / 2
	pi      = api.Pi
	limit   = api.MaxCoordinate
	densest = api.MaxDensity
	most    = api.MaxValue
	far     = 1 << 40
	low     = math.MinInt
	high    = math.MaxInt
)

// The arguments of one call, and the two answers of Inverse.
type (
	filled struct {
		s       api.Shape
		density int
	}
	turned struct {
		m     api.MassData
		kind  api.BodyKind
		fixed bool
	}
	inverses struct{ mass, inertia int }
)

// row is a row of a table: the arguments and the value that the chapter asks for.
type row[A, R any] struct {
	args A
	want R
}

func vec(x, y int) api.Vec {
	return api.Vec{X: x, Y: y}
}

func data(mass, x, y, inertia int) api.MassData {
	return api.MassData{Mass: mass, Center: vec(x, y), Inertia: inertia}
}

// path makes points of pairs of coordinates.
func path(coordinates ...int) []api.Vec {
	var list []api.Vec
	for i := 0; i+1 < len(coordinates); i += 2 {
		list = append(list, vec(coordinates[i], coordinates[i+1]))
	}
	return list
}

// rotated is the list that starts with point i of the given one.
func rotated(points []api.Vec, i int) []api.Vec {
	return slices.Concat(points[i:], points[:i])
}

func reversed(points []api.Vec) []api.Vec {
	list := slices.Clone(points)
	slices.Reverse(list)
	return list
}

func circle(radius, x, y int) api.Shape {
	return api.Shape{Kind: api.Circle, Radius: radius, Vertices: path(x, y)}
}

func capsule(radius int, coordinates ...int) api.Shape {
	return api.Shape{Kind: api.Capsule, Radius: radius, Vertices: path(coordinates...)}
}

func poly(coordinates ...int) api.Shape {
	return api.Shape{Kind: api.Polygon, Vertices: path(coordinates...)}
}

// moved is the shape with all vertices moved.
func moved(s api.Shape, x, y int) api.Shape {
	s.Vertices = slices.Clone(s.Vertices)
	for i, v := range s.Vertices {
		s.Vertices[i] = vec(v.X+x, v.Y+y)
	}
	return s
}

// A disc, a bar, a box, a wedge, whose centroid is rounded, and polygons with five and eight vertices.
func disc() api.Shape {
	return circle(one, 0, 0)
}

func bar() api.Shape {
	return capsule(half, -one, 0, 2*one, one)
}

func box() api.Shape {
	return poly(0, 0, one, 0, one, one, 0, one)
}

func wedge() api.Shape {
	return poly(-one, -one, 2*one, -one, 0, one)
}

func pentagon() api.Shape {
	return poly(2*one, 0, 4*one, one, 3*one, 3*one, one, 3*one, 0, one)
}

func octagon() api.Shape {
	return poly(one, 0, 2*one, 0, 3*one, one, 3*one, 2*one, 2*one, 3*one, one, 3*one, 0, 2*one, 0, one)
}

// whole is the largest polygon.
func whole() api.Shape {
	return poly(-limit, -limit, limit, -limit, limit, limit, -limit, limit)
}

func ordinary() []api.Shape {
	return []api.Shape{disc(), bar(), box(), wedge(), pentagon(), octagon(), circle(one, 5*one, -3*one), moved(box(), 5*one, -3*one), whole()}
}

func ofShape(f filled) api.MassData {
	return massdata.OfShape(f.s, f.density)
}

// check compares call with the rows and, on the samples, with oracle, which is held against the rows as well.
func check[A any, R comparable](t *testing.T, name string, call, oracle func(A) R, rows []row[A, R], samples []A) {
	t.Helper()
	for _, r := range rows {
		if got := call(r.args); got != r.want {
			t.Errorf("%s(%v) = %v, want %v", name, r.args, got, r.want)
		}
		if expected := oracle(r.args); expected != r.want {
			t.Errorf("%s(%v): the oracle says %v, the row %v", name, r.args, expected, r.want)
		}
	}
	for _, args := range samples {
		if got, want := call(args), oracle(args); got != want {
			t.Fatalf("%s(%v) = %v, want %v", name, args, got, want)
		}
	}
}

func checkOfShape(t *testing.T, rows []row[filled, api.MassData]) {
	t.Helper()
	check(t, "OfShape", ofShape, wantOfShape, rows, nil)
}

// P13.1
func TestOfCircle(t *testing.T) {
	checkOfShape(t, []row[filled, api.MassData]{
		{filled{disc(), one}, data(pi, 0, 0, pi/2)},
		{filled{disc(), half}, data(pi/2, 0, 0, pi/4)},
		// Away from the origin, only the center differs.
		{filled{circle(one, 5*one, -3*one), one}, data(pi, 5*one, -3*one, pi/2)},
		{filled{circle(one, 5*one, -3*one), half}, data(pi/2, 5*one, -3*one, pi/4)},
		{filled{circle(one, 5*one, -3*one), densest}, data(4*pi, 5*one, -3*one, 2*pi)},
		{filled{circle(5*half, -one, 7), 3 * one}, data(3860400, -one, 7, 12063750)},
		// Without density there is still a center.
		{filled{circle(one, 5*one, -3*one), 0}, data(0, 5*one, -3*one, 0)},
		// Every product is rounded: the square of 10001 is 1526 units, that of 3333 is 170.
		{filled{circle(10001, 1, 2), one}, data(4794, 1, 2, 56)},
		{filled{circle(3333, 100, 200), 12345}, data(101, 100, 200, 0)},
		// The smallest and the largest.
		{filled{circle(api.MinRadius, limit, -limit), 1}, data(0, limit, -limit, 0)},
		{filled{circle(api.MinRadius, limit, -limit), one}, data(201, limit, -limit, 0)},
		{filled{circle(api.MinRadius, 0, 0), densest}, data(804, 0, 0, 0)},
		{filled{circle(api.MaxRadius, -limit, limit), 1}, data(201, -limit, limit, 6432)},
		{filled{circle(api.MaxRadius, -limit, limit), one}, data(64*pi, -limit, limit, 64*32*pi)},
		// The inertia is saturated, the last one that is not being just below.
		{filled{circle(393805, 0, 0), densest}, data(29736756, 0, 0, 536866511)},
		{filled{circle(393806, 0, 0), densest}, data(29736904, 0, 0, most)},
		{filled{circle(api.MaxRadius, 0, 0), densest}, data(4*64*pi, 0, 0, most)},
	})
}

// P13.1
func TestOfCapsule(t *testing.T) {
	checkOfShape(t, []row[filled, api.MassData]{
		// Two halves of a disc and a rectangle of 2 by 4, which has l*l/12 = 4/3.
		{filled{capsule(one, 0, 0, 4*one, 0), one}, data(pi+8*one, 2*one, 0, 1338652)},
		{filled{capsule(one, 4*one, 0, 0, 0), one}, data(pi+8*one, 2*one, 0, 1338652)},
		{filled{capsule(one, 3*one, 5*one, 3*one, 9*one), one}, data(pi+8*one, 3*one, 7*one, 1338652)},
		// Aslant, with a length that is rounded down.
		{filled{bar(), one}, data(258715, half, half, 247934)},
		{filled{bar(), densest}, data(4*258715, half, half, 991736)},
		{filled{bar(), 0}, data(0, half, half, 0)},
		{filled{capsule(half, 2*one, one, -one, 0), 3*one + 5}, data(776165, half, half, 743821)},
		// A center that is rounded away from the first vertex.
		{filled{capsule(3001, 0, 0, 4097, -4099), one}, data(961, 2049, -2050, 2)},
		{filled{capsule(3001, 4097, -4099, 0, 0), one}, data(961, 2048, -2049, 2)},
		// The smallest and the largest.
		{filled{capsule(api.MinRadius, limit, limit, limit, limit-api.MinEdgeLength), 1}, data(0, limit, limit-api.MinEdgeLength/2, 0)},
		{filled{capsule(api.MinRadius, limit, limit, limit, limit-api.MinEdgeLength), one}, data(457, limit, limit-api.MinEdgeLength/2, 0)},
		{filled{capsule(api.MaxRadius, -limit, -limit, limit, limit), 1}, data(925, 0, 0, 187467)},
		// The inertia is saturated.
		{filled{capsule(api.MaxRadius, -limit, -limit, limit, limit), one}, data(60629952, 0, 0, most)},
		{filled{capsule(api.MaxRadius, -limit, -limit, limit, limit), densest}, data(242519808, 0, 0, most)},
	})
}

// P13.1
func TestOfPolygon(t *testing.T) {
	corner := poly(0, 0, one, 0, 0, one)
	large := poly(-limit, -limit, limit, -limit, -limit, limit)
	checkOfShape(t, []row[filled, api.MassData]{
		// The chapter's example.
		{filled{box(), one}, data(one, half, half, 10923)},
		{filled{box(), half}, data(half, half, half, 5462)},
		{filled{moved(box(), 5*one, -3*one), 3*one + 7}, data(3*one+7, 5*one+half, -3*one+half, 32770)},
		{filled{moved(box(), 5*one, -3*one), densest}, data(densest, 5*one+half, -3*one+half, 43692)},
		{filled{moved(box(), 5*one, -3*one), 0}, data(0, 5*one+half, -3*one+half, 0)},
		{filled{octagon(), one}, data(7*one, 98304, 98304, 513366)},
		{filled{octagon(), 1}, data(7, 98304, 98304, 8)},
		// An odd number of vertices.
		{filled{pentagon(), one}, data(8*one, 2*one, 103765, 695408)},
		{filled{pentagon(), densest}, data(32*one, 2*one, 103765, 2781632)},
		// A centroid that is rounded: a third of One, up and down.
		{filled{corner, one}, data(half, 21845, 21845, 3641)},
		{filled{corner, densest}, data(2*one, 21845, 21845, 14564)},
		{filled{moved(corner, 7, -9), half}, data(half/2, 21852, 21836, 1821)},
		{filled{moved(corner, 7, -9), 0}, data(0, 21852, 21836, 0)},
		{filled{wedge(), one}, data(3*one, 21845, -21845, 120150)},
		{filled{wedge(), half}, data(3*half, 21845, -21845, 60075)},
		// The smallest, a thin one, and the largest.
		{filled{poly(0, 0, 4096, 0, 4096, 4096, 0, 4096), one}, data(256, 2048, 2048, 0)},
		{filled{poly(0, 0, 4096, 0, 4096, 4096, 0, 4096), densest}, data(1024, 2048, 2048, 1)},
		{filled{poly(0, 0, 4096, 0, 4096, 4096, 0, 4096), 1}, data(0, 2048, 2048, 0)},
		{filled{poly(-limit, 0, limit, -8, limit-4096, 9), one}, data(272, 348160, 0, 15444)},
		{filled{whole(), 1}, data(1024, 0, 0, 174763)},
		{filled{large, 1}, data(512, -349525, -349525, 58254)},
		// The inertia is saturated.
		{filled{large, one}, data(512*one, -349525, -349525, most)},
		{filled{whole(), one}, data(1024*one, 0, 0, most)},
		{filled{whole(), densest}, data(1<<28, 0, 0, most)},
	})
}

// P13.1: any shape with any density.
func TestOfShapeOfAnything(t *testing.T) {
	check(t, "OfShape", ofShape, wantOfShape, nil, validFilled())
	check(t, "OfShape", ofShape, wantOfShape, nil, anyFilled())
}

// P13.1: densities at their limits and beyond them.
func TestOfShapeKeepsToTheDensities(t *testing.T) {
	for _, s := range ordinary() {
		for _, density := range []int{0, 1, one, densest - 1, densest} {
			_, center, _ := wantOfArea(s)
			got := massdata.OfShape(s, density)
			if want := wantOfShape(filled{s, density}); got != want || got.Center != center {
				t.Errorf("OfShape(%v, %d) = %v, want %v", s, density, got, want)
			}
		}
		for _, density := range []int{-1, densest + 1, -one, -densest, 2 * densest, most, -most, far, -far, low, high} {
			if got := massdata.OfShape(s, density); got != (api.MassData{}) {
				t.Errorf("OfShape(%v, %d) = %v", s, density, got)
			}
		}
	}
}

// invalid are shapes of each kind that break one rule each.
func invalid() []api.Shape {
	flipped := box()
	flipped.Vertices = reversed(flipped.Vertices)
	round := box()
	round.Radius = one
	return []api.Shape{
		{}, {Kind: 4, Radius: one, Vertices: path(0, 0)}, {Kind: -1, Radius: one, Vertices: path(0, 0)},
		{Kind: high, Vertices: box().Vertices}, {Kind: 1<<32 + 1, Radius: one, Vertices: path(0, 0)},
		// Circles.
		circle(0, 3, 4), circle(-one, 3, 4), circle(api.MinRadius-1, 3, 4), circle(api.MaxRadius+1, 3, 4), circle(high, 3, 4), circle(low, 3, 4),
		circle(one, limit+1, 0), circle(one, 0, low), {Kind: api.Circle, Radius: one}, {Kind: api.Circle, Radius: one, Vertices: path(1, 2, 3, 4)},
		// Capsules.
		capsule(one, 3, 4, 3, 4), capsule(one, 3, 4, 3+api.MinEdgeLength-1, 4), capsule(0, 0, 0, one, 0), capsule(api.MaxRadius+1, 0, 0, one, 0),
		capsule(one, 0, 0, limit+1, 0), capsule(one, low, high, 0, 0), capsule(one, 3, 4), capsule(one), capsule(one, 0, 0, one, 0, 0, one),
		// Polygons.
		flipped, round, poly(), poly(0, 0, one, 0), poly(0, 0, one, 0, 2*one, 0), poly(5, 5, 5, 5, 5, 5), poly(0, 0, 4095, 0, 4095, one, 0, one),
		poly(0, 0, 8192, 0, 0, 4080), poly(0, 0, limit+1, 0, 0, one), poly(low, low, high, low, high, high, low, high),
		{Kind: api.Polygon, Vertices: make([]api.Vec, 3000)},
		poly(0, 0, one, 0, 3*one, one, 4*one, 2*one, 4*one, 3*one, 3*one, 4*one, one, 5*one, 0, 5*one, -one, one),
	}
}

// P13.1
func TestOfShapeOfInvalidShapes(t *testing.T) {
	for _, s := range invalid() {
		for _, density := range []int{0, 1, one, densest, -1, high} {
			if got := massdata.OfShape(s, density); got != (api.MassData{}) {
				t.Errorf("OfShape(%v, %d) = %v", s, density, got)
			}
		}
	}
}

// P13.1: the values are those of mechanics, but for roundings, which weigh more in thin polygons.
func TestOfShapeIsClose(t *testing.T) {
	for _, f := range validFilled() {
		got, want := massdata.OfShape(f.s, f.density), trueOfShape(f)
		if f.s.Kind == api.Polygon && wantOfShape(filled{f.s, one}).Mass < one {
			continue
		}
		if !isClose(got.Mass, want.mass, 1e-4, 100) || !isClose(got.Center.X, want.x, 0, 64) || !isClose(got.Center.Y, want.y, 0, 64) {
			t.Fatalf("OfShape(%v) = %v, in truth %v", f, got, want)
		}
		if want.inertia*one < most && !isClose(got.Inertia, want.inertia, 0.02, 500) {
			t.Fatalf("OfShape(%v) = %v, in truth %v", f, got, want)
		}
	}
}

// isClose tells whether the fixed-point number differs from the true one by no more than a part of it and some units.
func isClose(got int, want, part, units float64) bool {
	return math.Abs(float64(got)-want*one) <= math.Abs(want*one)*part+units
}

// P13.1, P13.2: arguments stay as they are, with the room behind the length of their slices.
func TestArgumentsAreNotChanged(t *testing.T) {
	vertices := append(slices.Clone(wedge().Vertices), path(11, 12, 13, 14)...)
	fixture := api.Fixture{Shape: api.Shape{Kind: api.Polygon, Vertices: vertices[:3]}, Density: one}
	sensor := fixture
	sensor.Sensor = true
	fixtures := []api.Fixture{fixture, sensor, fixture, sensor, fixture}
	parts := []api.MassData{data(one, 1, 2, 3), data(far, low, high, far), data(5, 6, 7, 8)}
	verticesBefore, fixturesBefore, partsBefore := slices.Clone(vertices), slices.Clone(fixtures), slices.Clone(parts)
	massdata.OfShape(fixture.Shape, one)
	massdata.OfFixtures(fixtures[:3])
	massdata.Combine(parts[:2])
	if !slices.Equal(vertices, verticesBefore) || !slices.Equal(parts, partsBefore) || !reflect.DeepEqual(fixtures, fixturesBefore) {
		t.Errorf("changed to %v, %v, %v", vertices, parts, fixtures)
	}
}
