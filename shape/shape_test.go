package shape_test

import (
	"math"
	"reflect"
	"slices"
	"testing"

	"carom/api"
	"carom/shape"
)

const (
	one     = api.One
	half    = api.One / 2
	quarter = api.HalfPi
	pi      = api.Pi
	limit   = api.MaxCoordinate
	world   = api.WorldLimit
	most    = api.MaxValue
	far     = 1 << 40
	low     = math.MinInt
	high    = math.MaxInt
)

// The arguments of one call.
type (
	placed struct {
		s api.Shape
		t api.Transform
	}
	aimed struct {
		s api.Shape
		t api.Transform
		v api.Vec
	}
)

// row is a row of a table: the arguments and the value that the chapter asks for.
type row[A, R any] struct {
	args A
	want R
}

func vec(x, y int) api.Vec {
	return api.Vec{X: x, Y: y}
}

func plus(a, b api.Vec) api.Vec {
	return vec(a.X+b.X, a.Y+b.Y)
}

func at(x, y, angle int) api.Transform {
	return api.Transform{Position: vec(x, y), Angle: angle}
}

// path makes points of pairs of coordinates.
func path(coordinates ...int) []api.Vec {
	var list []api.Vec
	for i := 0; i+1 < len(coordinates); i += 2 {
		list = append(list, vec(coordinates[i], coordinates[i+1]))
	}
	return list
}

// times is the list with all coordinates multiplied by k.
func times(k int, points []api.Vec) []api.Vec {
	list := slices.Clone(points)
	for i, v := range list {
		list[i] = vec(k*v.X, k*v.Y)
	}
	return list
}

func reversed(points []api.Vec) []api.Vec {
	list := slices.Clone(points)
	slices.Reverse(list)
	return list
}

// arch is a convex list with any number of vertices, which lie on a parabola.
func arch(count int) []api.Vec {
	var list []api.Vec
	for x := range count {
		list = append(list, vec(x*half, x*x*one/8))
	}
	return list
}

func circle(radius, x, y int) api.Shape {
	return api.Shape{Kind: api.Circle, Radius: radius, Vertices: path(x, y)}
}

func capsule(radius int, coordinates ...int) api.Shape {
	return api.Shape{Kind: api.Capsule, Radius: radius, Vertices: path(coordinates...)}
}

func poly(coordinates ...int) api.Shape {
	return api.Shape{Kind: api.Polygon, Vertices: path(coordinates...)}
}

// An ordinary shape of each kind: a disc, a pill, a box and an octagon.
func disc() api.Shape {
	return circle(one, 0, 0)
}

func pill() api.Shape {
	return capsule(one, 0, 0, 4*one, 0)
}

func box() api.Shape {
	return poly(0, 0, one, 0, one, one, 0, one)
}

func octagon() api.Shape {
	return api.Shape{Kind: api.Polygon, Vertices: times(one, path(1, 0, 2, 0, 3, 1, 3, 2, 2, 3, 1, 3, 0, 2, 0, 1))}
}

func ordinary() []api.Shape {
	return []api.Shape{disc(), pill(), box(), octagon()}
}

// with returns s after a change, which leaves the vertices of s as they are.
func with(s api.Shape, change func(*api.Shape)) api.Shape {
	s.Vertices = slices.Clone(s.Vertices)
	change(&s)
	return s
}

func withRadius(s api.Shape, radius int) api.Shape {
	return with(s, func(s *api.Shape) { s.Radius = radius })
}

func withKind(s api.Shape, kind api.ShapeKind) api.Shape {
	return with(s, func(s *api.Shape) { s.Kind = kind })
}

func withVertices(s api.Shape, vertices []api.Vec) api.Shape {
	return with(s, func(s *api.Shape) { s.Vertices = vertices })
}

// check compares call with the rows and, on the samples, with oracle, which is held against the rows as well.
func check[A, R any](t *testing.T, name string, call, oracle func(A) R, rows []row[A, R], samples []A) {
	t.Helper()
	for _, r := range rows {
		if got := call(r.args); !reflect.DeepEqual(got, r.want) {
			t.Errorf("%s(%v) = %v, want %v", name, r.args, got, r.want)
		}
		if expected := oracle(r.args); !reflect.DeepEqual(expected, r.want) {
			t.Errorf("%s(%v): the oracle says %v, the row %v", name, r.args, expected, r.want)
		}
	}
	for _, args := range samples {
		if got, want := call(args), oracle(args); !reflect.DeepEqual(got, want) {
			t.Fatalf("%s(%v) = %v, want %v", name, args, got, want)
		}
	}
}

func checkValidate(t *testing.T, rows []row[api.Shape, api.Errno]) {
	t.Helper()
	check(t, "Validate", shape.Validate, wantValidate, rows, nil)
}

// faults are shapes that break one rule each.
func faults() []row[api.Shape, api.Errno] {
	return []row[api.Shape, api.Errno]{
		// An unknown kind.
		{api.Shape{}, api.ErrKind},
		{withKind(disc(), 0), api.ErrKind},
		{withKind(disc(), -1), api.ErrKind},
		{withKind(disc(), 4), api.ErrKind},
		{withKind(pill(), 0), api.ErrKind},
		{withKind(box(), 4), api.ErrKind},
		{withKind(box(), low), api.ErrKind},
		{withKind(box(), high), api.ErrKind},
		{withKind(box(), 1<<32+3), api.ErrKind},
		// A wrong number of vertices.
		{withVertices(disc(), nil), api.ErrCount},
		{withVertices(disc(), path(0, 0, one, 0)), api.ErrCount},
		{withVertices(pill(), path(0, 0)), api.ErrCount},
		{withVertices(pill(), path(0, 0, one, 0, 0, one)), api.ErrCount},
		{withVertices(box(), path(0, 0, one, 0)), api.ErrCount},
		{withVertices(box(), arch(9)), api.ErrCount},
		// A coordinate or a radius out of range.
		{circle(one, limit+1, 0), api.ErrRange},
		{circle(one, 0, -limit-1), api.ErrRange},
		{circle(0, 0, 0), api.ErrRange},
		{capsule(one, 0, 0, 0, limit+1), api.ErrRange},
		{capsule(-one, 0, 0, one, 0), api.ErrRange},
		{poly(0, 0, limit+1, 0, 0, limit), api.ErrRange},
		{withRadius(box(), 1), api.ErrRange},
		{withRadius(box(), -1), api.ErrRange},
		{withRadius(box(), one), api.ErrRange},
		// No axis.
		{capsule(one, 0, 0, 0, 0), api.ErrShape},
		{capsule(one, 7, 8, 9, 8), api.ErrShape},
		// Clockwise, three on one line, a dent, edges that cross, a vertex twice, all vertices the same.
		{withVertices(box(), reversed(box().Vertices)), api.ErrShape},
		{withVertices(box(), reversed(octagon().Vertices)), api.ErrShape},
		{poly(0, 0, one, 0, 2*one, 0), api.ErrShape},
		{poly(0, 0, half, 0, one, 0, one, one, 0, one), api.ErrShape},
		{poly(0, 0, one, 0, one, one, 0, one, 0, half), api.ErrShape},
		{poly(0, 0, 4*one, 0, one, one, 0, 4*one), api.ErrShape},
		{poly(0, 0, 4*one, 4*one, 4*one, 0, 0, 4*one), api.ErrShape},
		{poly(0, 0, one, 0, one, one, one, one, 0, one), api.ErrShape},
		{poly(5, 5, 5, 5, 5, 5), api.ErrShape},
		// Too short an edge, and too small an area.
		{poly(0, 0, 4095, 0, 4095, one, 0, one), api.ErrShape},
		{poly(0, 0, 8192, 0, 0, 4083), api.ErrShape},
	}
}

// P12.1
func TestValidate(t *testing.T) {
	rows := faults()
	for _, s := range ordinary() {
		rows = append(rows, row[api.Shape, api.Errno]{s, api.OK})
	}
	check(t, "Validate", shape.Validate, wantValidate, rows, shapes())
}

// P12.1: 0 to 9 vertices for each kind.
func TestValidateCountsTheVertices(t *testing.T) {
	var rows []row[api.Shape, api.Errno]
	for count := range 10 {
		want := map[api.ShapeKind]bool{api.Circle: count == 1, api.Capsule: count == 2, api.Polygon: 3 <= count && count <= 8}
		for kind, right := range want {
			s := api.Shape{Kind: kind, Radius: one, Vertices: arch(count)}
			if kind == api.Polygon {
				s.Radius = 0
			}
			if right {
				rows = append(rows, row[api.Shape, api.Errno]{s, api.OK})
			} else {
				rows = append(rows, row[api.Shape, api.Errno]{s, api.ErrCount})
			}
		}
	}
	for _, s := range ordinary() {
		for _, vertices := range [][]api.Vec{nil, {}, make([]api.Vec, 10), make([]api.Vec, 5000)} {
			rows = append(rows, row[api.Shape, api.Errno]{withVertices(s, vertices), api.ErrCount})
		}
	}
	checkValidate(t, rows)
}

// P12.1: each coordinate at MaxCoordinate and beyond it, on either side.
func TestValidateKeepsToTheCoordinates(t *testing.T) {
	large := []api.Shape{
		circle(one, limit, limit), circle(one, -limit, -limit), circle(api.MaxRadius, limit, -limit),
		capsule(one, -limit, -limit, limit, limit), capsule(one, limit, -limit, -limit, limit),
		poly(-limit, -limit, limit, -limit, limit, limit, -limit, limit), poly(-limit, 0, 0, -limit, limit, 0, 0, limit),
	}
	var rows []row[api.Shape, api.Errno]
	for _, s := range large {
		rows = append(rows, row[api.Shape, api.Errno]{s, api.OK})
	}
	for _, s := range append(large, ordinary()...) {
		for i, v := range s.Vertices {
			for _, wrong := range []int{limit + 1, -limit - 1, 2 * limit, most, -most, far, -far, low, high} {
				for _, w := range []api.Vec{vec(wrong, v.Y), vec(v.X, wrong), vec(wrong, wrong)} {
					beyond := with(s, func(s *api.Shape) { s.Vertices[i] = w })
					rows = append(rows, row[api.Shape, api.Errno]{beyond, api.ErrRange})
				}
			}
		}
	}
	checkValidate(t, rows)
}

// P12.1: radii at their limits and beyond them.
func TestValidateKeepsToTheRadii(t *testing.T) {
	inside := []int{api.MinRadius, api.MinRadius + 1, one, api.MaxRadius - 1, api.MaxRadius}
	outside := []int{api.MinRadius - 1, api.MaxRadius + 1, 1, -1, -api.MinRadius, -one, -api.MaxRadius, most, -most, far, low, high}
	var rows []row[api.Shape, api.Errno]
	for _, s := range []api.Shape{disc(), pill()} {
		rows = append(rows, row[api.Shape, api.Errno]{withRadius(s, 0), api.ErrRange})
		for _, radius := range inside {
			rows = append(rows, row[api.Shape, api.Errno]{withRadius(s, radius), api.OK})
		}
		for _, radius := range outside {
			rows = append(rows, row[api.Shape, api.Errno]{withRadius(s, radius), api.ErrRange})
		}
	}
	for _, s := range []api.Shape{box(), octagon()} {
		rows = append(rows, row[api.Shape, api.Errno]{withRadius(s, 0), api.OK})
		for _, radius := range append(inside, outside...) {
			rows = append(rows, row[api.Shape, api.Errno]{withRadius(s, radius), api.ErrRange})
		}
	}
	checkValidate(t, rows)
}

// P12.1: end points that lie MinEdgeLength apart, and less.
func TestValidateKeepsToTheShortestAxis(t *testing.T) {
	checkValidate(t, []row[api.Shape, api.Errno]{
		{capsule(one, 0, 0, 4096, 0), api.OK},
		{capsule(one, 0, 0, 4095, 0), api.ErrShape},
		{capsule(one, 0, 0, 0, -4096), api.OK},
		{capsule(one, 0, 0, 0, -4095), api.ErrShape},
		{capsule(one, 4096, 5, 0, 5), api.OK},
		{capsule(one, 4095, 5, 0, 5), api.ErrShape},
		{capsule(one, limit, limit, limit-4096, limit), api.OK},
		{capsule(one, -limit, limit, -limit, limit-4095), api.ErrShape},
		// Aslant: 4096 is the length of (2897, 2896), which is rounded down, and 4095 that of (2896, 2896).
		{capsule(one, 0, 0, 2897, 2896), api.OK},
		{capsule(one, 0, 0, 2896, 2896), api.ErrShape},
		{capsule(one, 100, -100, -2797, -2996), api.OK},
		{capsule(one, 100, -100, -2796, -2996), api.ErrShape},
		{capsule(api.MinRadius, 0, 0, 4095, 90), api.ErrShape},
		{capsule(api.MinRadius, 0, 0, 4095, 91), api.OK},
		{capsule(one, -9, 9, -9, 9), api.ErrShape},
	})
}

// P12.1: edges and areas at their least and one below, from every vertex on.
func TestValidateKeepsToTheSmallestPolygons(t *testing.T) {
	var rows []row[api.Shape, api.Errno]
	for _, r := range []row[api.Shape, api.Errno]{
		// Both at their least.
		{poly(0, 0, 4096, 0, 4096, 4096, 0, 4096), api.OK},
		// Each of the edges is too short in turn.
		{poly(0, 0, 4096, 0, 4096, one, 0, one), api.OK},
		{poly(0, 0, 4095, 0, 4095, one, 0, one), api.ErrShape},
		{poly(0, 0, 4096, 0, 9000, one, 0, one), api.OK},
		{poly(0, 0, 4095, 0, 9000, one, 0, one), api.ErrShape},
		// Aslant, and rounded down.
		{poly(2897, 0, one, 0, one, one, 0, one, 0, 2896), api.OK},
		{poly(2896, 0, one, 0, one, one, 0, one, 0, 2896), api.ErrShape},
		// Areas of 256 and 255.
		{poly(0, 0, 4096, 0, 4496, 4096, 400, 4096), api.OK},
		{poly(0, 0, 4096, 0, 4496, 4080, 400, 4080), api.ErrShape},
		{poly(0, 0, 8192, 0, 4096, 4096), api.OK},
		{poly(0, 0, 8192, 0, 4096, 4080), api.ErrShape},
		// Half of 511 is rounded to 256.
		{poly(0, 0, 8192, 0, 4096, 4084), api.OK},
		{poly(0, 0, 8192, 0, 4096, 4083), api.ErrShape},
		// Long and thin.
		{poly(-limit, 0, limit, -8, limit-4096, 9), api.OK},
		{poly(-limit, 0, limit, -7, limit-4096, 8), api.ErrShape},
	} {
		for i := range r.args.Vertices {
			vertices := slices.Concat(r.args.Vertices[i:], r.args.Vertices[:i])
			rows = append(rows, row[api.Shape, api.Errno]{withVertices(r.args, vertices), r.want})
		}
	}
	checkValidate(t, rows)
}

// P12.1: of several broken rules, the first in the order of the sentence tells the error.
func TestValidateTellsTheFirstError(t *testing.T) {
	type change = func(*api.Shape)
	wrongKind := func(s *api.Shape) { s.Kind += 7 }
	wrongCount := func(s *api.Shape) { s.Vertices = slices.Concat(s.Vertices, s.Vertices, s.Vertices, s.Vertices) }
	wrongRadius := func(s *api.Shape) { s.Radius = -1 }
	wrongPlace := func(s *api.Shape) { s.Vertices[0].Y = limit + 1 }
	wrongShape := func(s *api.Shape) { s.Vertices[1] = s.Vertices[0] }
	var rows []row[api.Shape, api.Errno]
	for _, s := range []api.Shape{pill(), box(), poly(0, 0, one, 0, 0, one)} {
		for _, r := range []row[[]change, api.Errno]{
			{[]change{wrongShape}, api.ErrShape},
			{[]change{wrongShape, wrongRadius}, api.ErrRange},
			{[]change{wrongShape, wrongPlace}, api.ErrRange},
			{[]change{wrongPlace, wrongRadius}, api.ErrRange},
			{[]change{wrongPlace, wrongShape, wrongRadius}, api.ErrRange},
			{[]change{wrongShape, wrongCount}, api.ErrCount},
			{[]change{wrongRadius, wrongCount}, api.ErrCount},
			{[]change{wrongPlace, wrongCount}, api.ErrCount},
			{[]change{wrongPlace, wrongShape, wrongRadius, wrongCount}, api.ErrCount},
			{[]change{wrongShape, wrongKind}, api.ErrKind},
			{[]change{wrongRadius, wrongKind}, api.ErrKind},
			{[]change{wrongPlace, wrongKind}, api.ErrKind},
			{[]change{wrongCount, wrongKind}, api.ErrKind},
			{[]change{wrongPlace, wrongShape, wrongRadius, wrongCount, wrongKind}, api.ErrKind},
		} {
			spoiled := with(s, func(s *api.Shape) {
				for _, apply := range r.args {
					apply(s)
				}
			})
			rows = append(rows, row[api.Shape, api.Errno]{spoiled, r.want})
		}
	}
	rows = append(rows, []row[api.Shape, api.Errno]{
		// A circle knows no wrong shape.
		{api.Shape{Kind: api.Circle, Vertices: path(limit+1, 0, 0, 0)}, api.ErrCount},
		{api.Shape{Kind: 9, Vertices: path(limit+1, 0, 0, 0)}, api.ErrKind},
		{api.Shape{Kind: api.Circle}, api.ErrCount},
		// Which vertex breaks which rule does not matter: the last one is out of range, the first ones lie on one line.
		{poly(0, 0, one, 0, 2*one, 0, 0, limit+1), api.ErrRange},
		{poly(0, 0, one, 0, one, 0, low, high), api.ErrRange},
	}...)
	checkValidate(t, rows)
}

// P12.1
func TestEqual(t *testing.T) {
	list := ordinary()
	for _, s := range ordinary() {
		list = append(list,
			withKind(s, s.Kind+10), withKind(s, 0), withRadius(s, s.Radius+1), withRadius(s, -s.Radius-1),
			withVertices(s, s.Vertices[:len(s.Vertices)-1]), withVertices(s, append(slices.Clone(s.Vertices), vec(0, 0))),
		)
		for i := range s.Vertices {
			list = append(list,
				with(s, func(s *api.Shape) { s.Vertices[i].X++ }), with(s, func(s *api.Shape) { s.Vertices[i].Y-- }),
				with(s, func(s *api.Shape) { s.Vertices[i] = vec(low, high) }), with(s, func(s *api.Shape) { s.Vertices[i] = vec(low, high-1) }),
			)
		}
	}
	list = append(list, withVertices(box(), reversed(box().Vertices)), withVertices(box(), nil), withKind(box(), low), withRadius(box(), high))
	for i, a := range list {
		for j, b := range list {
			copied := with(b, func(*api.Shape) {})
			if got := shape.Equal(a, copied); got != (i == j) {
				t.Errorf("Equal(%v, %v) = %v", a, b, got)
			}
		}
	}
}

// P12.1: a nil slice equals an empty one, whatever room it has.
func TestEqualOfNilAndEmpty(t *testing.T) {
	for _, kind := range []api.ShapeKind{0, api.Circle, api.Capsule, api.Polygon, high} {
		empty := []api.Shape{
			{Kind: kind, Radius: 5}, {Kind: kind, Radius: 5, Vertices: []api.Vec{}}, {Kind: kind, Radius: 5, Vertices: make([]api.Vec, 0, 9)}, {Kind: kind, Radius: 5, Vertices: path(1, 2)[:0]},
		}
		for _, a := range empty {
			for _, b := range empty {
				if !shape.Equal(a, b) {
					t.Errorf("Equal(%v, %v) = false", a, b)
				}
			}
			if one := withVertices(a, path(0, 0)); shape.Equal(a, one) || shape.Equal(one, a) {
				t.Errorf("%v is the same with a vertex", a)
			}
			if other := withRadius(a, 6); shape.Equal(a, other) || shape.Equal(other, a) {
				t.Errorf("%v is the same with another radius", a)
			}
		}
	}
}

// P12.1: of valid and of invalid shapes.
func TestClone(t *testing.T) {
	list := append(ordinary(), api.Shape{}, api.Shape{Kind: -5, Radius: low, Vertices: path(low, high, far, -far)}, withVertices(disc(), []api.Vec{}), withVertices(box(), arch(300)))
	for _, r := range faults() {
		list = append(list, r.args)
	}
	for _, s := range list {
		// Room behind the vertices, which a copy must not share either.
		s.Vertices = append(slices.Clone(s.Vertices), path(11, 12, 13, 14)...)
		whole := s.Vertices
		s.Vertices = whole[:len(whole)-2]
		before := slices.Clone(whole)
		want := api.Shape{Kind: s.Kind, Radius: s.Radius, Vertices: before[:len(s.Vertices)]}
		copied := shape.Clone(s)
		if copied.Kind != want.Kind || copied.Radius != want.Radius || !slices.Equal(copied.Vertices, want.Vertices) {
			t.Errorf("Clone(%v) = %v", s, copied)
		}
		if !shape.Equal(copied, s) {
			t.Errorf("Clone(%v) = %v, which is not equal", s, copied)
		}
		room := copied.Vertices[:cap(copied.Vertices)]
		for i := range room {
			room[i] = vec(-77, -88)
		}
		copied.Vertices = append(copied.Vertices, vec(-99, -99))
		if !slices.Equal(whole, before) {
			t.Errorf("a change of the copy turned %v into %v", before, whole)
		}
		again := shape.Clone(s)
		for i := range whole {
			whole[i] = vec(55, 66)
		}
		if !slices.Equal(again.Vertices, want.Vertices) {
			t.Errorf("a change of the first turned the copy of %v into %v", want, again)
		}
	}
}
