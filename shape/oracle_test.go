package shape_test

import (
	"math"
	"math/big"
	"math/rand"
	"slices"

	"carom/angle"
	"carom/api"
	"carom/polygon"
)

// The functions of this file work the promised values out by plain ints, component by component, so that they share no vector arithmetic with the package. Lengths are compared by their squares, and convex lists are found by every three vertices. Rotations come from package angle, which has tests of its own. A product of saturated numbers is below 2^58 and one of two differences of them below 2^60, so that sums of two fit into an int.

func saturated(x int) int {
	return min(max(x, -most), most)
}

func saturatedVec(v api.Vec) api.Vec {
	return vec(saturated(v.X), saturated(v.Y))
}

// divided is n/d for a positive d, halves away from zero.
func divided(n, d int) int {
	if n < 0 {
		return -divided(-n, d)
	}
	return (n + d/2) / d
}

// root is the square root of n, rounded down.
func root(n int) int {
	return int(new(big.Int).Sqrt(big.NewInt(int64(n))).Int64())
}

func square(a, b api.Vec) int {
	return (b.X-a.X)*(b.X-a.X) + (b.Y-a.Y)*(b.Y-a.Y)
}

// cross is twice the area of the triangle, positive if it turns left.
func cross(a, b, c api.Vec) int {
	return (b.X-a.X)*(c.Y-a.Y) - (b.Y-a.Y)*(c.X-a.X)
}

// wantValidate asks for one rule after the other.
func wantValidate(s api.Shape) api.Errno {
	least, greatest := 0, -1
	switch s.Kind {
	case 1:
		least, greatest = 1, 1
	case 2:
		least, greatest = 2, 2
	case 3:
		least, greatest = 3, 8
	}
	if greatest < 0 {
		return api.ErrKind
	}
	if count := len(s.Vertices); count < least || count > greatest {
		return api.ErrCount
	}
	if wantOutOfRange(s) {
		return api.ErrRange
	}
	if wantMisshapen(s) {
		return api.ErrShape
	}
	return api.OK
}

func wantOutOfRange(s api.Shape) bool {
	for _, v := range s.Vertices {
		for _, x := range []int{v.X, v.Y} {
			if x > 16*one || x < -16*one {
				return true
			}
		}
	}
	if s.Kind == 3 {
		return s.Radius != 0
	}
	return s.Radius < one/32 || s.Radius > 8*one
}

// wantMisshapen needs coordinates that are in range.
func wantMisshapen(s api.Shape) bool {
	for i, v := range s.Vertices {
		if next := s.Vertices[(i+1)%len(s.Vertices)]; s.Kind != 1 && square(v, next) < (one/16)*(one/16) {
			return true
		}
	}
	return s.Kind == 3 && (!wantConvex(s.Vertices) || wantArea(s.Vertices) < one/256)
}

// wantConvex tells whether every three vertices in their order turn left.
func wantConvex(vertices []api.Vec) bool {
	for k, c := range vertices {
		for j, b := range vertices[:k] {
			for _, a := range vertices[:j] {
				if cross(a, b, c) <= 0 {
					return false
				}
			}
		}
	}
	return true
}

func wantArea(vertices []api.Vec) int {
	sum := 0
	for i := 2; i < len(vertices); i++ {
		sum += divided(cross(vertices[0], vertices[i-1], vertices[i]), one)
	}
	return divided(sum, 2)
}

func wantVertices(p placed) []api.Vec {
	if wantValidate(p.s) != api.OK {
		return nil
	}
	r := angle.Rot(p.t.Angle)
	var core []api.Vec
	for _, v := range p.s.Vertices {
		turned := vec(saturated(divided(r.Cos*v.X-r.Sin*v.Y, one)), saturated(divided(r.Sin*v.X+r.Cos*v.Y, one)))
		position := saturatedVec(p.t.Position)
		core = append(core, vec(saturated(turned.X+position.X), saturated(turned.Y+position.Y)))
	}
	return core
}

func wantBounds(p placed) api.AABB {
	core := wantVertices(p)
	if core == nil {
		return api.AABB{}
	}
	var xs, ys []int
	for _, v := range core {
		xs, ys = append(xs, v.X), append(ys, v.Y)
	}
	return api.AABB{
		Min: vec(saturated(slices.Min(xs)-p.s.Radius), saturated(slices.Min(ys)-p.s.Radius)),
		Max: vec(saturated(slices.Max(xs)+p.s.Radius), saturated(slices.Max(ys)+p.s.Radius)),
	}
}

func wantContainsPoint(a aimed) bool {
	core := wantVertices(placed{a.s, a.t})
	v := saturatedVec(a.v)
	// A length is rounded down, so that it is at most the radius if it is less than the radius plus 1.
	beyond := (a.s.Radius + 1) * (a.s.Radius + 1)
	switch len(core) {
	case 0:
		return false
	case 1:
		x, y := saturated(v.X-core[0].X), saturated(v.Y-core[0].Y)
		return x*x+y*y < beyond
	case 2:
		return wantSquareToAxis(core[0], core[1], v) < beyond
	}
	for i, from := range core {
		if cross(from, core[(i+1)%len(core)], v) < 0 {
			return false
		}
	}
	return true
}

// wantSquareToAxis is the square of the distance of v from the segment ab, of which an end point counts as well if it is closer than the rounded point. A point on the segment itself needs no rule of its own here, as it is closer than any radius in any case.
func wantSquareToAxis(a, b, v api.Vec) int {
	nearest := min(square(a, v), square(b, v))
	along, whole := (v.X-a.X)*(b.X-a.X)+(v.Y-a.Y)*(b.Y-a.Y), square(a, b)
	if along <= 0 || along >= whole {
		return nearest
	}
	// An axis is shorter than 2^22, so that whole*one fits into an int.
	t := divided(along*one, whole)
	foot := vec(a.X+divided((b.X-a.X)*t, one), a.Y+divided((b.Y-a.Y)*t, one))
	return min(nearest, square(foot, v))
}

func wantSupport(a aimed) api.Vec {
	core := wantVertices(placed{a.s, a.t})
	if core == nil {
		return api.Vec{}
	}
	d := saturatedVec(a.v)
	farthest := slices.MaxFunc(core, func(p, q api.Vec) int {
		// No product exceeds 2^58.
		return (p.X*d.X + p.Y*d.Y) - (q.X*d.X + q.Y*d.Y)
	})
	component := func(core, d, length int) int {
		if length == 0 {
			return core
		}
		unit := divided(d*one, min(length, most))
		return saturated(core + divided(unit*a.s.Radius, one))
	}
	length := root(d.X*d.X + d.Y*d.Y)
	return vec(component(farthest.X, d.X, length), component(farthest.Y, d.Y, length))
}

func wantBoundingRadius(s api.Shape) int {
	if wantValidate(s) != api.OK {
		return 0
	}
	var squares []int
	for _, v := range s.Vertices {
		squares = append(squares, v.X*v.X+v.Y*v.Y)
	}
	return root(slices.Max(squares)) + s.Radius
}

// point is a place of the plane, not rounded.
type point struct{ x, y float64 }

func (p point) minus(q point) point {
	return point{p.x - q.x, p.y - q.y}
}

func (p point) length() float64 {
	return math.Hypot(p.x, p.y)
}

// trueCore is the core without any rounding but that of the rotation itself.
func trueCore(p placed) []point {
	r := angle.Rot(p.t.Angle)
	cos, sin := float64(r.Cos)/one, float64(r.Sin)/one
	var core []point
	for _, v := range p.s.Vertices {
		x, y := float64(v.X), float64(v.Y)
		core = append(core, point{cos*x - sin*y + float64(p.t.Position.X), sin*x + cos*y + float64(p.t.Position.Y)})
	}
	return core
}

// trueDepth tells how far v lies within a valid shape, or outside of it if it is negative; the latter is no more than the true distance for a polygon.
func trueDepth(a aimed) float64 {
	core, v := trueCore(placed{a.s, a.t}), point{float64(a.v.X), float64(a.v.Y)}
	switch len(core) {
	case 1:
		return float64(a.s.Radius) - v.minus(core[0]).length()
	case 2:
		return float64(a.s.Radius) - distanceToAxis(core[0], core[1], v)
	}
	depth := math.Inf(1)
	for i, from := range core {
		edge, way := core[(i+1)%len(core)].minus(from), v.minus(from)
		depth = min(depth, (edge.x*way.y-edge.y*way.x)/edge.length())
	}
	return depth
}

func distanceToAxis(a, b, v point) float64 {
	axis, way := b.minus(a), v.minus(a)
	t := (way.x*axis.x + way.y*axis.y) / (axis.x*axis.x + axis.y*axis.y)
	t = min(max(t, 0), 1)
	return way.minus(point{t * axis.x, t * axis.y}).length()
}

// dice draws numbers, the same ones for each seed.
type dice struct{ source *rand.Rand }

func newDice(seed int64) dice {
	return dice{rand.New(rand.NewSource(seed))}
}

// pick draws one of the numbers.
func (d dice) pick(numbers ...int) int {
	return numbers[d.source.Intn(len(numbers))]
}

// number draws a number from -scale to scale.
func (d dice) number(scale int) int {
	return d.source.Intn(2*scale+1) - scale
}

func (d dice) point(scale int) api.Vec {
	return vec(d.number(scale), d.number(scale))
}

// anyNumber draws a number of any size up to the ends of the ints.
func (d dice) anyNumber() int {
	return int(d.source.Uint64()) >> d.source.Intn(64)
}

func (d dice) anyPoint() api.Vec {
	return vec(d.anyNumber(), d.anyNumber())
}

func (d dice) radius() int {
	return d.pick(api.MinRadius, api.MaxRadius, api.MinRadius+d.source.Intn(one/8), api.MinRadius+d.source.Intn(api.MaxRadius-api.MinRadius))
}

// scale draws the size of the coordinates of one shape.
func (d dice) scale() int {
	return d.pick(one/8, one/4, one, 5*one, limit)
}

// shape draws a valid shape.
func (d dice) shape() api.Shape {
	for {
		scale := d.scale()
		s := d.candidate(d.point(limit-scale), scale)
		if wantValidate(s) == api.OK {
			return s
		}
	}
}

// candidate draws a shape near the center, most of which are valid.
func (d dice) candidate(center api.Vec, scale int) api.Shape {
	near := func() api.Vec {
		return plus(center, d.point(scale))
	}
	switch d.source.Intn(3) {
	case 0:
		return api.Shape{Kind: api.Circle, Radius: d.radius(), Vertices: []api.Vec{near()}}
	case 1:
		return api.Shape{Kind: api.Capsule, Radius: d.radius(), Vertices: []api.Vec{near(), near()}}
	}
	var points []api.Vec
	for range 3 + d.source.Intn(8) {
		points = append(points, near())
	}
	corners := polygon.ConvexHull(points)
	// Any corner may be the first.
	i := d.source.Intn(len(corners))
	return api.Shape{Kind: api.Polygon, Vertices: slices.Concat(corners[i:], corners[:i])}
}

// spoiled are shapes that differ from s in one thing, so that most of them are invalid, and some just not.
func (d dice) spoiled(s api.Shape) []api.Shape {
	kind, radius, more, less, back, moved, bent := s, s, s, s, s, s, s
	kind.Kind = api.ShapeKind(d.pick(-1, 0, 1, 2, 3, 4, d.anyNumber()))
	radius.Radius = d.pick(0, 1, -1, api.MinRadius-1, api.MaxRadius+1, d.radius(), d.anyNumber())
	i, j := d.source.Intn(len(s.Vertices)), d.source.Intn(len(s.Vertices))
	more.Vertices = slices.Insert(slices.Clone(s.Vertices), i, d.point(limit))
	less.Vertices = slices.Delete(slices.Clone(s.Vertices), i, i+1)
	back.Vertices = slices.Clone(s.Vertices)
	slices.Reverse(back.Vertices)
	moved.Vertices = slices.Clone(s.Vertices)
	beyond := d.pick(limit, limit+1, -limit, -limit-1, d.anyNumber())
	moved.Vertices[i] = []api.Vec{vec(beyond, s.Vertices[i].Y), vec(s.Vertices[i].X, beyond)}[d.source.Intn(2)]
	bent.Vertices = slices.Clone(s.Vertices)
	bent.Vertices[i] = plus(s.Vertices[j], d.point(d.pick(1, 3000, 4500)))
	return []api.Shape{kind, radius, more, less, back, moved, bent}
}

// shapes are valid and invalid ones of every kind.
func shapes() []api.Shape {
	var list []api.Shape
	dice := newDice(1)
	for range 8000 {
		s := dice.shape()
		list = append(list, s)
		list = append(list, dice.spoiled(s)...)
		// Near the smallest ones.
		list = append(list, dice.candidate(dice.point(one), dice.pick(3000, 4096, 6000)))
	}
	return list
}

// validTransform reaches up to the limits of validity.
func (d dice) validTransform() api.Transform {
	position := d.pick(one, 40*one, 3000*one, world)
	x, y := d.number(position), d.number(position)
	if d.source.Intn(4) == 0 {
		x, y = d.pick(world, -world, 0), d.pick(world, -world, 0)
	}
	turn := d.pick(-pi, pi-1, 0, quarter, -quarter, d.source.Intn(2*pi)-pi, d.source.Intn(2*pi)-pi, d.source.Intn(2*pi)-pi)
	return at(x, y, turn)
}

func (d dice) anyTransform() api.Transform {
	return at(d.anyNumber(), d.anyNumber(), d.anyNumber())
}

// placedShapes are valid and invalid shapes at valid and invalid transforms.
func placedShapes() []placed {
	var list []placed
	dice := newDice(2)
	for _, s := range shapes() {
		list = append(list, placed{s, dice.validTransform()}, placed{s, dice.anyTransform()})
	}
	return list
}

// validPlaced are valid shapes at valid transforms.
func validPlaced() []placed {
	var list []placed
	dice := newDice(3)
	for range 8000 {
		list = append(list, placed{dice.shape(), dice.validTransform()})
	}
	return list
}

// atTheEdge draws a point that is about a radius away from a place on the core.
func (d dice) atTheEdge(p placed) api.Vec {
	core := trueCore(p)
	i := d.source.Intn(len(core))
	a, b := core[i], core[(i+1)%len(core)]
	part := max(0, min(1, d.source.Float64()*1.2-0.1))
	turn := d.source.Float64() * 2 * math.Pi
	if len(core) == 2 && d.source.Intn(2) == 0 {
		// At right angles to the axis.
		turn = math.Atan2(b.x-a.x, a.y-b.y) + math.Pi*float64(d.source.Intn(2))
	}
	away := float64(p.s.Radius + d.number(6))
	x, y := a.x+(b.x-a.x)*part+away*math.Cos(turn), a.y+(b.y-a.y)*part+away*math.Sin(turn)
	return vec(int(math.Round(x)), int(math.Round(y)))
}

// aims are placed shapes with points at their edge, anywhere near them and at any distance.
func aims() []aimed {
	var list []aimed
	dice := newDice(4)
	for _, p := range validPlaced() {
		for range 4 {
			list = append(list, aimed{p.s, p.t, dice.atTheEdge(p)})
		}
		near := plus(p.t.Position, dice.point(20*one))
		list = append(list, aimed{p.s, p.t, near}, aimed{p.s, p.t, dice.anyPoint()})
	}
	for _, p := range placedShapes() {
		list = append(list, aimed{p.s, p.t, plus(saturatedVec(p.t.Position), dice.point(limit))}, aimed{p.s, p.t, dice.anyPoint()})
	}
	return list
}

// aimsAt are the aims at shapes of one kind, valid or not.
func aimsAt(kind api.ShapeKind) []aimed {
	return slices.DeleteFunc(aims(), func(a aimed) bool {
		return a.s.Kind != kind
	})
}
