package distance_test

import (
	"math"
	"math/big"
	"math/rand"
	"slices"
	"sync"

	"carom/api"
	"carom/polygon"
	"carom/shape"
)

// The functions of this file work the promised distances out by plain ints from the cores alone, so that they share nothing else with the lower layers. Cores come from package shape, which has tests of its own. The coordinates of cores are saturated: a product of two differences of them is below 2^60, so that sums of two fit into an int.

func saturated(x int) int {
	return min(max(x, -most), most)
}

func saturatedVec(v api.Vec) api.Vec {
	return vec(saturated(v.X), saturated(v.Y))
}

// divided is n/d for a positive d, halves away from zero.
func divided(n, d int) int {
	if n < 0 {
		return -divided(-n, d)
	}
	return (n + d/2) / d
}

// root is the square root of n, rounded down.
func root(n int) int {
	return int(new(big.Int).Sqrt(big.NewInt(int64(n))).Int64())
}

// wantRatio is n/d, for a d that is not negative.
func wantRatio(n, d int) int {
	switch {
	case n <= 0 || d == 0:
		return 0
	case n >= d:
		return one
	case d < 1<<46:
		return divided(n*one, d)
	}
	return min(one, divided(n, divided(d, one)))
}

// wantPart is the point at the fraction t of the way from one point to another.
func wantPart(from, to api.Vec, t int) api.Vec {
	component := func(from, to int) int {
		return saturated(from + divided(saturated(to-from)*t, one))
	}
	return vec(component(from.X, to.X), component(from.Y, to.Y))
}

func square(a, b api.Vec) int {
	return (b.X-a.X)*(b.X-a.X) + (b.Y-a.Y)*(b.Y-a.Y)
}

// cross is twice the area of the triangle, positive if it turns left.
func cross(a, b, c api.Vec) int {
	return (b.X-a.X)*(c.Y-a.Y) - (b.Y-a.Y)*(c.X-a.X)
}

// along is the dot product of the ways from a to b and to p.
func along(a, b, p api.Vec) int {
	return (p.X-a.X)*(b.X-a.X) + (p.Y-a.Y)*(b.Y-a.Y)
}

// within tells whether n/d lies in [0, 1], for any d but 0.
func within(n, d int) bool {
	if d < 0 {
		n, d = -n, -d
	}
	return 0 <= n && n <= d
}

// side is a segment of a core, from its first end to its second one.
type side struct{ a, b api.Vec }

func (s side) holds(p api.Vec) bool {
	if s.a == s.b {
		return p == s.a
	}
	return cross(s.a, s.b, p) == 0 && within(along(s.a, s.b, p), square(s.a, s.b))
}

// meets tells whether two sides have a common point, by the parameters of their lines' crossing.
func (s side) meets(other side) bool {
	a, b, c, d := s.a, s.b, other.a, other.b
	turn := (b.X-a.X)*(d.Y-c.Y) - (b.Y-a.Y)*(d.X-c.X)
	if turn == 0 {
		return other.holds(a) || other.holds(b) || s.holds(c) || s.holds(d)
	}
	alongS := (c.X-a.X)*(d.Y-c.Y) - (c.Y-a.Y)*(d.X-c.X)
	alongOther := (c.X-a.X)*(b.Y-a.Y) - (c.Y-a.Y)*(b.X-a.X)
	return within(alongS, turn) && within(alongOther, turn)
}

// squareTo is the square of the distance of p from the point of the side that is closest to it, which is rounded.
func (s side) squareTo(p api.Vec) int {
	t := wantRatio(along(s.a, s.b, p), square(s.a, s.b))
	if t == one {
		return square(s.b, p)
	}
	return square(wantPart(s.a, s.b, t), p)
}

func (s side) wantDistance(other side) int {
	if s.meets(other) {
		return 0
	}
	return saturated(root(min(other.squareTo(s.a), other.squareTo(s.b), s.squareTo(other.a), s.squareTo(other.b))))
}

// body is a shape in the world.
type body struct {
	kind   api.ShapeKind
	core   []api.Vec
	radius int
}

func bodyOf(s api.Shape, t api.Transform) body {
	return body{s.Kind, shape.Vertices(s, t), s.Radius}
}

func (b body) sides() []side {
	switch b.kind {
	case api.Circle:
		return []side{{b.core[0], b.core[0]}}
	case api.Capsule:
		return []side{{b.core[0], b.core[1]}}
	}
	list := []side{{b.core[len(b.core)-1], b.core[0]}}
	for i := 1; i < len(b.core); i++ {
		list = append(list, side{b.core[i-1], b.core[i]})
	}
	return list
}

// surrounds tells whether b is a polygon with v in it, on it, or wherever no edge has v to its right.
func (b body) surrounds(v api.Vec) bool {
	if b.kind != api.Polygon {
		return false
	}
	return !slices.ContainsFunc(b.sides(), func(s side) bool { return cross(s.a, s.b, v) < 0 })
}

func wantSeparation(p pair) int {
	a, b := bodyOf(p.a, p.ta), bodyOf(p.b, p.tb)
	switch {
	case a.core == nil || b.core == nil:
		return most
	case a.surrounds(b.core[0]) || b.surrounds(a.core[0]):
		return 0
	}
	var distances []int
	for _, s := range a.sides() {
		for _, other := range b.sides() {
			distances = append(distances, s.wantDistance(other))
		}
	}
	return max(0, slices.Min(distances)-a.radius-b.radius)
}

func wantToPoint(a aimed) int {
	b, v := bodyOf(a.s, a.t), saturatedVec(a.v)
	switch {
	case b.core == nil:
		return most
	case b.surrounds(v):
		return 0
	}
	var distances []int
	for _, s := range b.sides() {
		distances = append(distances, s.wantDistance(side{v, v}))
	}
	return max(0, slices.Min(distances)-b.radius)
}

// trueDistance is the distance of the sides, without rounding.
func (s side) trueDistance(other side) float64 {
	if s.meets(other) {
		return 0
	}
	return min(s.trueDistanceTo(other.a), s.trueDistanceTo(other.b), other.trueDistanceTo(s.a), other.trueDistanceTo(s.b))
}

func (s side) trueDistanceTo(p api.Vec) float64 {
	t, whole := along(s.a, s.b, p), square(s.a, s.b)
	switch {
	case t <= 0:
		return math.Sqrt(float64(square(s.a, p)))
	case t >= whole:
		return math.Sqrt(float64(square(s.b, p)))
	}
	return math.Abs(float64(cross(s.a, s.b, p))) / math.Sqrt(float64(whole))
}

// trueDistance is the distance of two convex cores, without rounding.
func (b body) trueDistance(other body) float64 {
	if b.overlaps(other) {
		return 0
	}
	nearest := math.Inf(1)
	for _, s := range b.sides() {
		for _, o := range other.sides() {
			nearest = min(nearest, s.trueDistance(o))
		}
	}
	return nearest
}

// axes are the directions across and along the sides of the core.
func (b body) axes() []api.Vec {
	var list []api.Vec
	for _, s := range b.sides() {
		way := vec(s.b.X-s.a.X, s.b.Y-s.a.Y)
		list = append(list, vec(way.Y, -way.X), way)
	}
	return list
}

// extent is the range of the core along the axis.
func (b body) extent(axis api.Vec) (low, high int) {
	var list []int
	for _, v := range b.core {
		list = append(list, v.X*axis.X+v.Y*axis.Y)
	}
	return slices.Min(list), slices.Max(list)
}

// overlaps tells whether two convex cores have a common point: no axis keeps them apart. Points have no axes of their own.
func (b body) overlaps(other body) bool {
	axes := append(append(b.axes(), other.axes()...), vec(1, 0), vec(0, 1))
	return !slices.ContainsFunc(axes, func(axis api.Vec) bool {
		low, high := b.extent(axis)
		otherLow, otherHigh := other.extent(axis)
		return high < otherLow || otherHigh < low
	})
}

// dice draws numbers, the same ones for each seed.
type dice struct{ source *rand.Rand }

func newDice(seed int64) dice {
	return dice{rand.New(rand.NewSource(seed))}
}

// pick draws one of the numbers.
func (d dice) pick(numbers ...int) int {
	return numbers[d.source.Intn(len(numbers))]
}

// number draws a number from -scale to scale.
func (d dice) number(scale int) int {
	return d.source.Intn(2*scale+1) - scale
}

func (d dice) point(scale int) api.Vec {
	return vec(d.number(scale), d.number(scale))
}

// anyNumber draws a number of any size up to the ends of the ints.
func (d dice) anyNumber() int {
	return int(d.source.Uint64()) >> d.source.Intn(64)
}

func (d dice) radius() int {
	return d.pick(api.MinRadius, api.MaxRadius, one, api.MinRadius+d.source.Intn(one/8), api.MinRadius+d.source.Intn(one), api.MinRadius+d.source.Intn(api.MaxRadius-api.MinRadius))
}

// shape draws a valid shape: of any form, or with edges along the axes, so that those of two shapes are parallel.
func (d dice) shape() api.Shape {
	for {
		scale := d.pick(one/8, one/4, one, 5*one, limit)
		center := d.point(limit - scale)
		near := func() api.Vec { return plus(center, d.point(scale)) }
		p, q := near(), near()
		var s api.Shape
		switch d.source.Intn(5) {
		case 0:
			s = disc(d.radius(), p.X, p.Y)
		case 1:
			s = pill(d.radius(), p.X, p.Y, q.X, q.Y)
		case 2:
			s = pill(d.radius(), p.X, p.Y, p.X, q.Y)
		case 3:
			s = poly(min(p.X, q.X), min(p.Y, q.Y), max(p.X, q.X), min(p.Y, q.Y), max(p.X, q.X), max(p.Y, q.Y), min(p.X, q.X), max(p.Y, q.Y))
		case 4:
			s = d.polygon(near)
		}
		if shape.Validate(s) == api.OK {
			return s
		}
	}
}

// polygon draws the hull of several points, starting at any corner. It may be invalid.
func (d dice) polygon(near func() api.Vec) api.Shape {
	var points []api.Vec
	for range 3 + d.source.Intn(12) {
		points = append(points, near())
	}
	corners := polygon.ConvexHull(points)
	i := d.source.Intn(len(corners))
	return api.Shape{Kind: api.Polygon, Vertices: slices.Concat(corners[i:], corners[:i])}
}

// turn draws an angle: a multiple of a right angle, or any.
func (d dice) turn() int {
	return d.pick(0, 0, quarter, -quarter, -2*quarter, d.number(2*quarter), d.number(2*quarter), d.number(10))
}

// spot draws a point of a core: a vertex, a point of a side, or the middle.
func (d dice) spot(core []api.Vec) api.Vec {
	v, w := core[d.source.Intn(len(core))], core[d.source.Intn(len(core))]
	switch d.source.Intn(3) {
	case 0:
		return v
	case 1:
		return wantPart(v, w, d.source.Intn(one+1))
	}
	var sum api.Vec
	for _, v := range core {
		sum = plus(sum, v)
	}
	return vec(sum.X/len(core), sum.Y/len(core))
}

// step draws the way from a point of one core to a point of the other, whose length is often that at which shapes with these radii touch.
func (d dice) step(radii int) api.Vec {
	direction := d.source.Float64() * 2 * math.Pi
	if d.source.Intn(2) == 0 {
		direction = math.Pi / 2 * float64(d.source.Intn(4))
	}
	length := float64(d.pick(0, 0, 1, 2, d.source.Intn(one), d.source.Intn(20*one), radii, radii+1, radii+1, radii-1, radii+d.number(5), radii+d.number(one/8), radii+d.source.Intn(5*one)))
	return vec(int(math.Round(length*math.Cos(direction))), int(math.Round(length*math.Sin(direction))))
}

// The samples are drawn once, as several tests go through them.
var (
	meetings = sync.OnceValue(drawMeetings)
	strays   = sync.OnceValue(drawStrays)
)

func pairs() []pair {
	return slices.Concat(meetings(), strays())
}

// drawMeetings draws pairs of valid shapes in the world that overlap, touch, or lie near each other, in every way.
func drawMeetings() []pair {
	var list []pair
	dice := newDice(1)
	for range 40000 {
		p := pair{dice.shape(), at(0, 0, dice.turn()), dice.shape(), at(0, 0, dice.turn())}
		p.ta.Position = dice.point(dice.pick(0, one, 1000*one, api.WorldLimit/2))
		from, to := dice.spot(shape.Vertices(p.a, p.ta)), dice.spot(shape.Vertices(p.b, p.tb))
		p.tb.Position = plus(vec(from.X-to.X, from.Y-to.Y), dice.step(p.a.Radius+p.b.Radius))
		list = append(list, p)
	}
	return list
}

// drawStrays draws pairs of valid shapes at any place, most of them far away where sums saturate, and of invalid ones.
func drawStrays() []pair {
	var list []pair
	dice := newDice(2)
	edge := func() int {
		return dice.pick(most, -most, 0) + dice.number(dice.pick(1, one, 20*one))
	}
	for range 15000 {
		p := pair{dice.shape(), at(edge(), edge(), dice.turn()), dice.shape(), at(0, 0, dice.turn())}
		p.tb.Position = plus(p.ta.Position, dice.point(dice.pick(1, one, 20*one)))
		switch dice.source.Intn(6) {
		case 0:
			p.tb = at(dice.anyNumber(), dice.anyNumber(), dice.anyNumber())
		case 1:
			p.ta = at(dice.anyNumber(), dice.anyNumber(), dice.anyNumber())
			p.tb = p.ta
		case 2:
			p.tb.Position = vec(edge(), edge())
		case 3:
			p.a = dice.spoiled(p.a)
		case 4:
			p.b = dice.spoiled(p.b)
		}
		list = append(list, p)
	}
	return list
}

// spoiled is s with one thing changed, so that it is most often invalid.
func (d dice) spoiled(s api.Shape) api.Shape {
	s.Vertices = slices.Clone(s.Vertices)
	switch d.source.Intn(5) {
	case 0:
		s.Kind = api.ShapeKind(d.pick(0, 1, 2, 3, 4, -1, d.anyNumber()))
	case 1:
		s.Radius = d.pick(0, 1, -1, api.MinRadius-1, api.MaxRadius+1, d.anyNumber())
	case 2:
		s.Vertices = append(s.Vertices, d.point(limit))
	case 3:
		s.Vertices = s.Vertices[1:]
	case 4:
		slices.Reverse(s.Vertices)
	}
	return s
}

// targets draws shapes with points in them, on them, near them, and anywhere.
func targets() []aimed {
	var list []aimed
	dice := newDice(3)
	for _, p := range pairs() {
		core := shape.Vertices(p.a, p.ta)
		if core == nil {
			list = append(list, aimed{p.a, p.ta, p.tb.Position})
			continue
		}
		for _, v := range []api.Vec{dice.spot(core), plus(dice.spot(core), dice.step(p.a.Radius)), p.tb.Position, vec(dice.anyNumber(), dice.anyNumber())} {
			list = append(list, aimed{p.a, p.ta, v})
		}
	}
	return list
}
