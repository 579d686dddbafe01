package manifold_test

import (
	"math"
	"math/big"
	"math/rand"
	"slices"
	"sync"

	"carom/api"
	"carom/polygon"
	"carom/shape"
)

// The functions of this file work the promised manifolds out by plain ints, component by component, from the cores alone, so that they share nothing else with the lower layers. Cores come from package shape, which has tests of its own. The coordinates of cores are saturated: a product of two such numbers is below 2^58 and one of two differences of them below 2^60, so that sums of two fit into an int.

func saturated(x int) int {
	return min(max(x, -most), most)
}

// divided is n/d for a positive d, halves away from zero.
func divided(n, d int) int {
	if n < 0 {
		return -divided(-n, d)
	}
	return (n + d/2) / d
}

// root is the square root of n, rounded down.
func root(n int) int {
	return int(new(big.Int).Sqrt(big.NewInt(int64(n))).Int64())
}

// wantWay is the way from one point to another.
func wantWay(from, to api.Vec) api.Vec {
	return vec(saturated(to.X-from.X), saturated(to.Y-from.Y))
}

func wantLength(v api.Vec) int {
	return root(v.X*v.X + v.Y*v.Y)
}

// wantUnit is v divided by its length.
func wantUnit(v api.Vec) api.Vec {
	length := min(wantLength(v), most)
	if length == 0 {
		return api.Vec{}
	}
	return vec(saturated(divided(v.X*one, length)), saturated(divided(v.Y*one, length)))
}

func wantDot(a, b api.Vec) int {
	return saturated(divided(a.X*b.X+a.Y*b.Y, one))
}

// wantAhead is the point at the distance along the normal.
func wantAhead(start, normal api.Vec, distance int) api.Vec {
	component := func(start, normal int) int {
		return saturated(start + saturated(divided(normal*saturated(distance), one)))
	}
	return vec(component(start.X, normal.X), component(start.Y, normal.Y))
}

// wantRatio is n/d, for a d that is not negative.
func wantRatio(n, d int) int {
	switch {
	case n <= 0 || d == 0:
		return 0
	case n >= d:
		return one
	case d < 1<<46:
		return divided(n*one, d)
	}
	return min(one, divided(n, divided(d, one)))
}

// wantPart is the point at the fraction t of the way from one point to another.
func wantPart(from, to api.Vec, t int) api.Vec {
	return wantAhead(from, wantWay(from, to), t)
}

func square(a, b api.Vec) int {
	return (b.X-a.X)*(b.X-a.X) + (b.Y-a.Y)*(b.Y-a.Y)
}

// cross is twice the area of the triangle, positive if it turns left.
func cross(a, b, c api.Vec) int {
	return (b.X-a.X)*(c.Y-a.Y) - (b.Y-a.Y)*(c.X-a.X)
}

// wantClosestPoint is the point of the segment ab that is closest to p.
func wantClosestPoint(a, b, p api.Vec) api.Vec {
	t := wantRatio((p.X-a.X)*(b.X-a.X)+(p.Y-a.Y)*(b.Y-a.Y), square(a, b))
	if t == one {
		return b
	}
	return wantPart(a, b, t)
}

// within tells whether n/d lies in [0, 1], for any d but 0.
func within(n, d int) bool {
	if d < 0 {
		n, d = -n, -d
	}
	return 0 <= n && n <= d
}

// onSegment tells whether p lies on the segment ab.
func onSegment(p, a, b api.Vec) bool {
	if a == b {
		return p == a
	}
	return cross(a, b, p) == 0 && within((p.X-a.X)*(b.X-a.X)+(p.Y-a.Y)*(b.Y-a.Y), square(a, b))
}

// meet tells whether the segments ab and cd have a common point, by the parameters of their lines' crossing.
func meet(a, b, c, d api.Vec) bool {
	turn := (b.X-a.X)*(d.Y-c.Y) - (b.Y-a.Y)*(d.X-c.X)
	if turn == 0 {
		return onSegment(a, c, d) || onSegment(b, c, d) || onSegment(c, a, b) || onSegment(d, a, b)
	}
	alongAB := (c.X-a.X)*(d.Y-c.Y) - (c.Y-a.Y)*(d.X-c.X)
	alongCD := (c.X-a.X)*(b.Y-a.Y) - (c.Y-a.Y)*(b.X-a.X)
	return within(alongAB, turn) && within(alongCD, turn)
}

// wantClosestPoints is a pair of closest points of the segments ab and cd.
func wantClosestPoints(a, b, c, d api.Vec) [2]api.Vec {
	if meet(a, b, c, d) {
		x, y := cross(c, d, a), cross(c, d, b)
		x, y = max(x, -x), max(y, -y)
		common := wantPart(a, b, wantRatio(x, x+y))
		return [2]api.Vec{common, common}
	}
	return slices.MinFunc([][2]api.Vec{
		{a, wantClosestPoint(c, d, a)}, {b, wantClosestPoint(c, d, b)}, {wantClosestPoint(a, b, c), c}, {wantClosestPoint(a, b, d), d},
	}, func(p, q [2]api.Vec) int {
		return square(p[0], p[1]) - square(q[0], q[1])
	})
}

// side is one of the two shapes that touch.
type side struct {
	core   core
	radius int
}

// edge is edge i of the core.
func (s side) edge(i int) (start, end api.Vec) {
	if i == len(s.core)-1 {
		return s.core[i], s.core[0]
	}
	return s.core[i], s.core[i+1]
}

func (s side) normal(i int) api.Vec {
	way := wantWay(s.edge(i))
	return wantUnit(vec(way.Y, -way.X))
}

// wantSeparation is the first edge of s with the largest separation from other, and that separation.
func (s side) wantSeparation(other side) (int, int) {
	var separations []int
	for i, start := range s.core {
		var distances []int
		for _, v := range other.core {
			distances = append(distances, wantDot(s.normal(i), wantWay(start, v)))
		}
		separations = append(separations, slices.Min(distances))
	}
	largest := slices.Max(separations)
	return slices.Index(separations, largest), largest
}

// wantFacing is the first edge whose normal points the most against n.
func (s side) wantFacing(n api.Vec) int {
	var along []int
	for i := range s.core {
		along = append(along, wantDot(s.normal(i), n))
	}
	return slices.Index(along, slices.Min(along))
}

func wantCollide(p pair) answer {
	a, b := side{shape.Vertices(p.a, p.ta), p.a.Radius}, side{shape.Vertices(p.b, p.tb), p.b.Radius}
	switch {
	case a.core == nil || b.core == nil:
		return answer{}
	case len(a.core) <= 2 && len(b.core) <= 2:
		return wantOfRound(a, b)
	case len(b.core) == 1:
		return wantOfCircle(a, b, 1)
	case len(a.core) == 1:
		return wantOfCircle(b, a, -1)
	}
	i, g := a.wantSeparation(b)
	k, h := b.wantSeparation(a)
	if saturated(saturated(max(g, h)-a.radius)-b.radius) > 1024 {
		return answer{}
	}
	if h-64 > g {
		return wantOfEdge(b, k, a, -1, 4096)
	}
	return wantOfEdge(a, i, b, 1, 0)
}

// wantOfRound is for circles and capsules.
func wantOfRound(a, b side) answer {
	closest := wantClosestPoints(a.core[0], a.core[len(a.core)-1], b.core[0], b.core[len(b.core)-1])
	way := wantWay(closest[0], closest[1])
	normal := vec(0, one)
	if way != (api.Vec{}) {
		normal = wantUnit(way)
	}
	separation := saturated(saturated(saturated(wantLength(way))-a.radius) - b.radius)
	if separation > 1024 {
		return answer{}
	}
	place := wantAhead(closest[0], normal, a.radius+divided(separation, 2))
	return touching(normal.X, normal.Y, point(place.X, place.Y, separation, 0))
}

// wantOfCircle is for a polygon and a circle. If the sign is -1, the circle is the first shape.
func wantOfCircle(a, b side, sign int) answer {
	c := b.core[0]
	i, gap := a.wantSeparation(b)
	normal := a.normal(i)
	if gap > 0 {
		var candidates []api.Vec
		for i := range a.core {
			start, end := a.edge(i)
			candidates = append(candidates, wantClosestPoint(start, end, c))
		}
		x := slices.MinFunc(candidates, func(p, q api.Vec) int { return square(p, c) - square(q, c) })
		gap = saturated(wantLength(wantWay(x, c)))
		if gap != 0 {
			normal = wantUnit(wantWay(x, c))
		}
	}
	separation := saturated(gap - b.radius)
	if separation > 1024 {
		return answer{}
	}
	place := wantAhead(c, vec(-normal.X, -normal.Y), divided(saturated(gap+b.radius), 2))
	return touching(sign*normal.X, sign*normal.Y, point(place.X, place.Y, separation, 0))
}

// wantOfEdge is for edge i of a, which is the first shape if the sign is 1, and the edge of b that faces it.
func wantOfEdge(a side, i int, b side, sign, base int) answer {
	normal := a.normal(i)
	j := b.wantFacing(normal)
	start, _ := a.edge(i)
	var points []api.ContactPoint
	for id, v := range wantBeside(a, i, b, j) {
		d := wantDot(normal, wantWay(start, v))
		separation := saturated(saturated(d-a.radius) - b.radius)
		if separation > 1024 {
			continue
		}
		place := wantAhead(v, vec(-normal.X, -normal.Y), divided(saturated(saturated(d-a.radius)+b.radius), 2))
		points = append(points, point(place.X, place.Y, separation, base+64*i+8*j+id))
	}
	if points == nil {
		return answer{}
	}
	return touching(sign*normal.X, sign*normal.Y, points...)
}

// wantBeside is the part of edge j of b that lies beside edge i of a: two points or none.
func wantBeside(a side, i int, b side, j int) []api.Vec {
	start, end := a.edge(i)
	forward := wantUnit(wantWay(start, end))
	from, to := b.edge(j)
	return wantCut(wantCut([]api.Vec{from, to}, end, forward), start, vec(-forward.X, -forward.Y))
}

// wantCut is the part of a segment that does not lie beyond origin.
func wantCut(segment []api.Vec, origin, normal api.Vec) []api.Vec {
	if segment == nil {
		return nil
	}
	d, e := wantDot(normal, wantWay(origin, segment[0])), wantDot(normal, wantWay(origin, segment[1]))
	switch {
	case d > 0 && e > 0:
		return nil
	case d > 0:
		return []api.Vec{wantPart(segment[0], segment[1], wantRatio(d, d-e)), segment[1]}
	case e > 0:
		return []api.Vec{segment[0], wantPart(segment[1], segment[0], wantRatio(e, e-d))}
	}
	return segment
}

// trueDistanceToSegment is the distance of p from the segment ab, without rounding.
func trueDistanceToSegment(a, b, p api.Vec) float64 {
	along, whole := (p.X-a.X)*(b.X-a.X)+(p.Y-a.Y)*(b.Y-a.Y), square(a, b)
	switch {
	case along <= 0:
		return math.Sqrt(float64(square(a, p)))
	case along >= whole:
		return math.Sqrt(float64(square(b, p)))
	}
	return math.Abs(float64(cross(a, b, p))) / math.Sqrt(float64(whole))
}

// trueDistanceToPoint is the distance of p from the surface of the shape, negative inside.
func trueDistanceToPoint(s api.Shape, t api.Transform, p api.Vec) float64 {
	a := side{shape.Vertices(s, t), s.Radius}
	if s.Kind != api.Polygon {
		return trueDistanceToSegment(a.core[0], a.core[len(a.core)-1], p) - float64(s.Radius)
	}
	nearest, inside := math.Inf(1), true
	for i := range a.core {
		start, end := a.edge(i)
		nearest = min(nearest, trueDistanceToSegment(start, end, p))
		inside = inside && cross(start, end, p) >= 0
	}
	if inside {
		return -nearest
	}
	return nearest
}

// trueDistance is the distance of two shapes of which at least one is a circle, or of two capsules, negative where they overlap, and whether there is one: capsules whose axes meet have none.
func trueDistance(p pair) (float64, bool) {
	a, b := shape.Vertices(p.a, p.ta), shape.Vertices(p.b, p.tb)
	switch {
	case p.b.Kind == api.Circle:
		distance := trueDistanceToPoint(p.a, p.ta, b[0])
		// Where the center of the circle lies on the axis there is no direction.
		return distance - float64(p.b.Radius), p.a.Kind == api.Polygon || distance+float64(p.a.Radius) > 100
	case p.a.Kind == api.Circle:
		return trueDistance(p.exchanged())
	case p.a.Kind == api.Polygon || p.b.Kind == api.Polygon || meet(a[0], a[1], b[0], b[1]):
		return 0, false
	}
	distance := min(
		trueDistanceToSegment(a[0], a[1], b[0]), trueDistanceToSegment(a[0], a[1], b[1]),
		trueDistanceToSegment(b[0], b[1], a[0]), trueDistanceToSegment(b[0], b[1], a[1]))
	return distance - float64(p.a.Radius+p.b.Radius), distance > 100
}

// dice draws numbers, the same ones for each seed.
type dice struct{ source *rand.Rand }

func newDice(seed int64) dice {
	return dice{rand.New(rand.NewSource(seed))}
}

// pick draws one of the numbers.
func (d dice) pick(numbers ...int) int {
	return numbers[d.source.Intn(len(numbers))]
}

// number draws a number from -scale to scale.
func (d dice) number(scale int) int {
	return d.source.Intn(2*scale+1) - scale
}

func (d dice) point(scale int) api.Vec {
	return vec(d.number(scale), d.number(scale))
}

// anyNumber draws a number of any size up to the ends of the ints.
func (d dice) anyNumber() int {
	return int(d.source.Uint64()) >> d.source.Intn(64)
}

func (d dice) radius() int {
	return d.pick(api.MinRadius, api.MaxRadius, one, api.MinRadius+d.source.Intn(one/8), api.MinRadius+d.source.Intn(one), api.MinRadius+d.source.Intn(api.MaxRadius-api.MinRadius))
}

// shape draws a valid shape: of any form, or with edges along the axes, so that those of two shapes are parallel.
func (d dice) shape() api.Shape {
	for {
		scale := d.pick(one/8, one/4, one, 5*one, limit)
		center := d.point(limit - scale)
		near := func() api.Vec { return plus(center, d.point(scale)) }
		p, q := near(), near()
		var s api.Shape
		switch d.source.Intn(5) {
		case 0:
			s = disc(d.radius(), p.X, p.Y)
		case 1:
			s = pill(d.radius(), p.X, p.Y, q.X, q.Y)
		case 2:
			s = pill(d.radius(), p.X, p.Y, p.X, q.Y)
		case 3:
			s = poly(min(p.X, q.X), min(p.Y, q.Y), max(p.X, q.X), min(p.Y, q.Y), max(p.X, q.X), max(p.Y, q.Y), min(p.X, q.X), max(p.Y, q.Y))
		case 4:
			s = d.polygon(near)
		}
		if shape.Validate(s) == api.OK {
			return s
		}
	}
}

// polygon draws the hull of several points, starting at any corner. It may be invalid.
func (d dice) polygon(near func() api.Vec) api.Shape {
	var points []api.Vec
	for range 3 + d.source.Intn(12) {
		points = append(points, near())
	}
	corners := polygon.ConvexHull(points)
	i := d.source.Intn(len(corners))
	return api.Shape{Kind: api.Polygon, Vertices: slices.Concat(corners[i:], corners[:i])}
}

// turn draws an angle: a multiple of a right angle, or any.
func (d dice) turn() int {
	return d.pick(0, 0, quarter, -quarter, -2*quarter, d.number(2*quarter), d.number(2*quarter), d.number(10))
}

func (d dice) direction() api.Vec {
	turn := d.source.Float64() * 2 * math.Pi
	return vec(int(one*math.Cos(turn)), int(one*math.Sin(turn)))
}

// facing draws the normal of an edge of the core, or any direction.
func (d dice) facing(s side) api.Vec {
	if len(s.core) == 1 || d.source.Intn(4) == 0 {
		return d.direction()
	}
	return s.normal(d.source.Intn(len(s.core)))
}

// approach moves the second shape of the pair to the surface of the first one, in any direction, and then by a little or more of a gap or an overlap, and along the surface.
func (d dice) approach(p pair) pair {
	a, b := side{shape.Vertices(p.a, p.ta), p.a.Radius}, side{shape.Vertices(p.b, p.tb), p.b.Radius}
	direction := d.facing(a)
	if d.source.Intn(2) == 0 {
		n := d.facing(b)
		direction = vec(-n.X, -n.Y)
	}
	gap := d.pick(0, 1, -1, 2, -3, margin, margin+1, margin-1, d.number(margin), d.number(margin), -d.source.Intn(one/4), -d.source.Intn(8*one), -d.source.Intn(30*one), d.source.Intn(one))
	slide := d.pick(0, d.number(10), d.number(one), d.number(12*one))
	from := shape.Support(p.a, p.ta, direction)
	to := shape.Support(p.b, p.tb, vec(-direction.X, -direction.Y))
	shift := vec(divided(direction.X*gap-direction.Y*slide, one), divided(direction.Y*gap+direction.X*slide, one))
	p.tb.Position = plus(p.tb.Position, plus(shift, vec(from.X-to.X, from.Y-to.Y)))
	return p
}

// The samples are drawn once, as several tests go through them.
var (
	meetings = sync.OnceValue(drawMeetings)
	strays   = sync.OnceValue(drawStrays)
)

func pairs() []pair {
	return slices.Concat(meetings(), strays())
}

// drawMeetings draws pairs of valid shapes in the world that touch or nearly do, in every way.
func drawMeetings() []pair {
	var list []pair
	dice := newDice(1)
	for range 60000 {
		p := pair{dice.shape(), at(0, 0, dice.turn()), dice.shape(), at(0, 0, dice.turn())}
		scale := dice.pick(0, one, 1000*one, api.WorldLimit/2)
		p.ta.Position = dice.point(scale)
		if dice.source.Intn(8) == 0 {
			// A vertex of one core on a vertex of the other one.
			a, b := shape.Vertices(p.a, p.ta), shape.Vertices(p.b, p.tb)
			v, w := a[dice.source.Intn(len(a))], b[dice.source.Intn(len(b))]
			p.tb.Position = plus(vec(v.X-w.X, v.Y-w.Y), dice.point(dice.pick(0, 1, 5, 100)))
			list = append(list, p)
			continue
		}
		list = append(list, dice.approach(p))
	}
	return list
}

// drawStrays draws pairs of valid shapes at any place, most of them far away where sums saturate, and of invalid ones.
func drawStrays() []pair {
	var list []pair
	dice := newDice(2)
	edge := func() int {
		return dice.pick(most, -most, 0) + dice.number(dice.pick(1, one, 20*one))
	}
	for range 20000 {
		p := pair{dice.shape(), at(edge(), edge(), dice.turn()), dice.shape(), at(0, 0, dice.turn())}
		p.tb.Position = plus(p.ta.Position, dice.point(dice.pick(1, one, 20*one)))
		switch dice.source.Intn(6) {
		case 0:
			p.tb = at(dice.anyNumber(), dice.anyNumber(), dice.anyNumber())
		case 1:
			p.ta = at(dice.anyNumber(), dice.anyNumber(), dice.anyNumber())
			p.tb = p.ta
		case 2:
			p.tb.Position = vec(edge(), edge())
		case 3:
			p.a = dice.spoiled(p.a)
		case 4:
			p.b = dice.spoiled(p.b)
		}
		list = append(list, p)
	}
	return list
}

// spoiled is s with one thing changed, so that it is most often invalid.
func (d dice) spoiled(s api.Shape) api.Shape {
	s.Vertices = slices.Clone(s.Vertices)
	switch d.source.Intn(5) {
	case 0:
		s.Kind = api.ShapeKind(d.pick(0, 1, 2, 3, 4, -1, d.anyNumber()))
	case 1:
		s.Radius = d.pick(0, 1, -1, api.MinRadius-1, api.MaxRadius+1, d.anyNumber())
	case 2:
		s.Vertices = append(s.Vertices, d.point(limit))
	case 3:
		s.Vertices = s.Vertices[1:]
	case 4:
		slices.Reverse(s.Vertices)
	}
	return s
}
