package massdata_test

import (
	"math"
	"math/big"
	"math/rand"
	"slices"

	"carom/api"
	"carom/polygon"
	"carom/shape"
)

// The functions of this file work the promised values out by plain ints, component by component, so that they share no vector arithmetic with the package. Whether a shape is valid is asked of package shape, which has tests of its own. A product of saturated numbers is below 2^58, so that sums of eight fit into an int.

func saturated(x int) int {
	return min(max(x, -most), most)
}

// divided is n/d for a positive d, halves away from zero.
func divided(n, d int) int {
	if n < 0 {
		return -divided(-n, d)
	}
	return (n + d/2) / d
}

// product is the rounded product of numbers of any size.
func product(a, b int) int {
	return saturated(divided(saturated(a)*saturated(b), one))
}

// root is the square root of n, rounded down.
func root(n int) int {
	return int(new(big.Int).Sqrt(big.NewInt(int64(n))).Int64())
}

func wantOfShape(f filled) api.MassData {
	if shape.Validate(f.s) != api.OK || f.density < 0 || f.density > 4*one {
		return api.MassData{}
	}
	area, center, gyration := wantOfArea(f.s)
	mass := product(area, f.density)
	return api.MassData{Mass: mass, Center: center, Inertia: product(mass, gyration)}
}

// wantOfArea is the area of a valid shape, its center, and its inertia at mass One.
func wantOfArea(s api.Shape) (int, api.Vec, int) {
	q := divided(s.Radius*s.Radius, one)
	switch s.Kind {
	case 1:
		return product(205888, q), s.Vertices[0], divided(q, 2)
	case 2:
		a, b := s.Vertices[0], s.Vertices[1]
		x, y := b.X-a.X, b.Y-a.Y
		l := root(x*x + y*y)
		return product(205888, q) + product(2*s.Radius, l), vec(a.X+divided(x, 2), a.Y+divided(y, 2)), divided(q, 2) + divided(product(l, l), 12)
	}
	doubled, center := wantCentroid(s.Vertices)
	return divided(doubled, 2), center, wantGyration(s.Vertices, center)
}

// wantCentroid is the doubled area of a polygon and its centroid.
func wantCentroid(vertices []api.Vec) (int, api.Vec) {
	first, doubled, x, y := vertices[0], 0, 0, 0
	for i := 2; i < len(vertices); i++ {
		ex, ey := vertices[i-1].X-first.X, vertices[i-1].Y-first.Y
		fx, fy := vertices[i].X-first.X, vertices[i].Y-first.Y
		k := divided(ex*fy-ey*fx, one)
		doubled, x, y = doubled+k, x+(ex+fx)*k, y+(ey+fy)*k
	}
	return doubled, vec(first.X+divided(x, 3*doubled), first.Y+divided(y, 3*doubled))
}

// wantGyration goes around the polygon from its last vertex on.
func wantGyration(vertices []api.Vec, center api.Vec) int {
	a, b := 0, 0
	last := vertices[len(vertices)-1]
	for _, v := range vertices {
		ux, uy, vx, vy := last.X-center.X, last.Y-center.Y, v.X-center.X, v.Y-center.Y
		k := divided(ux*vy-uy*vx, one)
		a += k * (divided(ux*ux+uy*uy, one) + divided(ux*vx+uy*vy, one) + divided(vx*vx+vy*vy, one))
		b += k
		last = v
	}
	if b < 1 {
		return 0
	}
	return divided(divided(a, b), 6)
}

func wantCombine(parts []api.MassData) api.MassData {
	if len(parts) > 8 {
		return api.MassData{}
	}
	m, x, y := 0, 0, 0
	for _, p := range parts {
		if p.Mass < 0 {
			return api.MassData{}
		}
		m += saturated(p.Mass)
		x += saturated(p.Mass) * saturated(p.Center.X)
		y += saturated(p.Mass) * saturated(p.Center.Y)
	}
	center := api.Vec{}
	if m > 0 {
		center = vec(divided(x, m), divided(y, m))
	}
	inertia := 0
	for _, p := range parts {
		dx, dy := saturated(saturated(p.Center.X)-center.X), saturated(saturated(p.Center.Y)-center.Y)
		inertia = saturated(inertia + saturated(p.Inertia))
		inertia = saturated(inertia + product(p.Mass, divided(dx*dx+dy*dy, one)))
	}
	// No mass is negative, so that it does not matter when their sum is saturated.
	return api.MassData{Mass: saturated(m), Center: center, Inertia: inertia}
}

func wantOfFixtures(fixtures []api.Fixture) api.MassData {
	var parts []api.MassData
	for _, f := range fixtures {
		if !f.Sensor {
			parts = append(parts, wantOfShape(filled{f.Shape, f.Density}))
		}
	}
	if len(fixtures) > 4 {
		return api.MassData{}
	}
	return wantCombine(parts)
}

func wantInverse(t turned) inverses {
	over := func(x int) int {
		return saturated(divided(one*one, saturated(x)))
	}
	switch {
	case t.kind != 3:
		return inverses{0, 0}
	case t.m.Mass < 1 && (t.m.Inertia < 1 || t.fixed):
		return inverses{one, 0}
	case t.m.Mass < 1:
		return inverses{one, over(t.m.Inertia)}
	case t.m.Inertia < 1 || t.fixed:
		return inverses{over(t.m.Mass), 0}
	}
	return inverses{over(t.m.Mass), over(t.m.Inertia)}
}

// real is mass data without rounding and saturation, in units of 1, not of 1/65536.
type real struct{ mass, x, y, inertia float64 }

// trueOfShape works by the formulas of mechanics; a capsule's inertia is the promised one, which is not quite the true one.
func trueOfShape(f filled) real {
	var list []float64
	for _, v := range f.s.Vertices {
		list = append(list, float64(v.X)/one, float64(v.Y)/one)
	}
	r, density := float64(f.s.Radius)/one, float64(f.density)/one
	switch f.s.Kind {
	case api.Circle:
		mass := math.Pi * r * r * density
		return real{mass, list[0], list[1], mass * r * r / 2}
	case api.Capsule:
		l := math.Hypot(list[2]-list[0], list[3]-list[1])
		mass := (math.Pi*r*r + 2*r*l) * density
		return real{mass, (list[0] + list[2]) / 2, (list[1] + list[3]) / 2, mass * (r*r/2 + l*l/12)}
	}
	return trueOfPolygon(list, density)
}

// trueOfPolygon adds up the triangles that the origin forms with the edges, and moves the inertia from the origin to the center at last.
func trueOfPolygon(list []float64, density float64) real {
	var area, x, y, square float64
	for i := 0; i < len(list); i += 2 {
		ax, ay, bx, by := list[i], list[i+1], list[(i+2)%len(list)], list[(i+3)%len(list)]
		part := (ax*by - ay*bx) / 2
		area += part
		x += part * (ax + bx) / 3
		y += part * (ay + by) / 3
		square += part * (ax*ax + ax*bx + bx*bx + ay*ay + ay*by + by*by) / 6
	}
	x, y = x/area, y/area
	mass := area * density
	return real{mass, x, y, (square - area*(x*x+y*y)) * density}
}

// dice draws numbers, the same ones for each seed.
type dice struct{ source *rand.Rand }

func newDice(seed int64) dice {
	return dice{rand.New(rand.NewSource(seed))}
}

// pick draws one of the numbers.
func (d dice) pick(numbers ...int) int {
	return numbers[d.source.Intn(len(numbers))]
}

// number draws a number from -scale to scale.
func (d dice) number(scale int) int {
	return d.source.Intn(2*scale+1) - scale
}

// anyNumber draws a number of any size up to the ends of the ints.
func (d dice) anyNumber() int {
	return int(d.source.Uint64()) >> d.source.Intn(64)
}

func (d dice) point(scale int) api.Vec {
	return vec(d.number(scale), d.number(scale))
}

func (d dice) radius() int {
	return d.pick(api.MinRadius, api.MaxRadius, api.MinRadius+d.source.Intn(one/8), api.MinRadius+d.source.Intn(api.MaxRadius-api.MinRadius))
}

func (d dice) density() int {
	return d.pick(0, 1, one, densest, d.source.Intn(one), d.source.Intn(densest+1), d.source.Intn(densest+1))
}

// shape draws a valid shape.
func (d dice) shape() api.Shape {
	for {
		scale := d.pick(one/8, one/4, one, 5*one, limit)
		s := d.candidate(d.point(limit-scale), scale)
		if shape.Validate(s) == api.OK {
			return s
		}
	}
}

// candidate draws a shape near the center, most of which are valid.
func (d dice) candidate(center api.Vec, scale int) api.Shape {
	near := func() api.Vec {
		v := d.point(scale)
		return vec(center.X+v.X, center.Y+v.Y)
	}
	switch d.source.Intn(4) {
	case 0:
		return api.Shape{Kind: api.Circle, Radius: d.radius(), Vertices: []api.Vec{near()}}
	case 1:
		return api.Shape{Kind: api.Capsule, Radius: d.radius(), Vertices: []api.Vec{near(), near()}}
	}
	var points []api.Vec
	for range 3 + d.source.Intn(10) {
		points = append(points, near())
	}
	corners := polygon.ConvexHull(points)
	i := d.source.Intn(len(corners))
	return api.Shape{Kind: api.Polygon, Vertices: rotated(corners, i)}
}

// spoiled is s after a change that makes most shapes invalid.
func (d dice) spoiled(s api.Shape) api.Shape {
	s.Vertices = slices.Clone(s.Vertices)
	i := d.source.Intn(len(s.Vertices))
	switch d.source.Intn(4) {
	case 0:
		s.Kind = api.ShapeKind(d.pick(-1, 0, 1, 2, 3, 4))
	case 1:
		s.Radius = d.pick(-1, 0, 1, api.MinRadius-1, api.MaxRadius+1, d.anyNumber())
	case 2:
		s.Vertices[i] = vec(d.anyNumber(), d.anyNumber())
	case 3:
		s.Vertices = slices.Delete(s.Vertices, i, i+1)
	}
	return s
}

// validFilled are valid shapes with valid densities.
func validFilled() []filled {
	var list []filled
	dice := newDice(1)
	for range 20000 {
		list = append(list, filled{dice.shape(), dice.density()})
	}
	return list
}

// anyFilled are shapes and densities of which one at least is most often invalid.
func anyFilled() []filled {
	var list []filled
	dice := newDice(2)
	for range 20000 {
		s := dice.shape()
		list = append(list, filled{dice.spoiled(s), dice.density()}, filled{s, dice.anyNumber()})
	}
	return list
}

// part draws mass data with numbers of one size, up to the largest ones.
func (d dice) part() api.MassData {
	sizes := []int{0, 1, 5, 1000, one, limit, most}
	size := func() int { return sizes[d.source.Intn(len(sizes))] }
	switch d.source.Intn(8) {
	case 0:
		return api.MassData{Mass: d.anyNumber() & math.MaxInt, Center: vec(d.anyNumber(), d.anyNumber()), Inertia: d.anyNumber()}
	case 1:
		return api.MassData{Mass: d.source.Intn(5), Center: d.point(5), Inertia: d.pick(most, -most, most-5, 5-most, 5, -5)}
	}
	return api.MassData{Mass: d.source.Intn(size() + 1), Center: d.point(size()), Inertia: d.number(size())}
}

// partLists are up to 9 parts, a few with a negative mass among them.
func partLists() [][]api.MassData {
	var list [][]api.MassData
	dice := newDice(3)
	for range 60000 {
		var parts []api.MassData
		for range dice.source.Intn(10) {
			parts = append(parts, dice.part())
		}
		if len(parts) > 0 && dice.source.Intn(20) == 0 {
			parts[dice.source.Intn(len(parts))].Mass = -1 - dice.source.Intn(one)
		}
		list = append(list, parts)
	}
	return list
}

// fixtureLists are up to 5 fixtures, some with a sensor or an invalid shape or density among them.
func fixtureLists() [][]api.Fixture {
	var list [][]api.Fixture
	dice := newDice(4)
	for range 10000 {
		var fixtures []api.Fixture
		for range dice.source.Intn(6) {
			f := api.Fixture{Shape: dice.shape(), Density: dice.density(), Sensor: dice.source.Intn(4) == 0, Friction: dice.number(one), Group: dice.number(40)}
			if dice.source.Intn(8) == 0 {
				f.Shape = dice.spoiled(f.Shape)
			}
			if dice.source.Intn(8) == 0 {
				f.Density = dice.anyNumber()
			}
			fixtures = append(fixtures, f)
		}
		list = append(list, fixtures)
	}
	return list
}

// anyTurned is mass data of any size with kinds of bodies, known and unknown.
func anyTurned() []turned {
	var list []turned
	dice := newDice(5)
	for range 60000 {
		m := api.MassData{Mass: dice.anyNumber(), Center: vec(dice.anyNumber(), dice.anyNumber()), Inertia: dice.anyNumber()}
		if dice.source.Intn(2) == 0 {
			m.Mass, m.Inertia = dice.number(40), dice.number(40)
		}
		kind := api.BodyKind(dice.pick(0, 1, 2, 3, 3, 3, 3, 4, dice.anyNumber()))
		list = append(list, turned{m, kind, dice.source.Intn(2) == 0})
	}
	return list
}
