package raycast_test

import (
	"math"
	"math/big"
	"math/rand"
	"slices"
	"sync"

	"carom/api"
	"carom/polygon"
	"carom/shape"
)

// The functions of this file work the promised hits out by plain ints, so that they share nothing with the lower layers but the cores of shapes, which package shape tests. A product of two saturated numbers is below 2^58, so that sums of a few fit into an int.

func saturated(x int) int {
	return min(max(x, -most), most)
}

func saturatedVec(v api.Vec) api.Vec {
	return vec(saturated(v.X), saturated(v.Y))
}

// divided is n/d for a d that is not 0, halves away from zero.
func divided(n, d int) int {
	switch {
	case d < 0:
		return divided(-n, -d)
	case n < 0:
		return -divided(-n, d)
	}
	return (n + d/2) / d
}

// root is the square root of n, rounded down.
func root(n int) int {
	return int(new(big.Int).Sqrt(big.NewInt(int64(n))).Int64())
}

// wantWay is the way from one point to another.
func wantWay(from, to api.Vec) api.Vec {
	return saturatedVec(minus(saturatedVec(to), saturatedVec(from)))
}

func wantDot(a, b api.Vec) int {
	return saturated(divided(a.X*b.X+a.Y*b.Y, one))
}

func wantLength(v api.Vec) int {
	return root(v.X*v.X + v.Y*v.Y)
}

func wantDirection(v api.Vec) api.Vec {
	length := saturated(wantLength(v))
	if length == 0 {
		return api.Vec{}
	}
	return vec(divided(v.X*one, length), divided(v.Y*one, length))
}

// right is v turned by a right angle to the right.
func right(v api.Vec) api.Vec {
	return vec(v.Y, -v.X)
}

// wantPoint is the point at the fraction of the ray.
func wantPoint(r ray, fraction int) api.Vec {
	d, from := wantWay(r.from, r.to), saturatedVec(r.from)
	return vec(saturated(from.X+divided(d.X*fraction, one)), saturated(from.Y+divided(d.Y*fraction, one)))
}

func wantCircle(c disk) hit {
	d, m := wantWay(c.from, c.to), wantWay(c.from, c.center)
	length, u := wantLength(d), wantDirection(d)
	if d == (api.Vec{}) || c.radius < 0 || most < c.radius {
		return hit{}
	}
	aside := wantDot(right(u), m)
	if aside > c.radius || -aside > c.radius {
		return hit{}
	}
	entry := saturated(wantDot(u, m) - root(c.radius*c.radius-aside*aside))
	if entry < 0 || length < entry {
		return hit{}
	}
	fraction := divided(entry*one, length)
	return hit{fraction, wantDirection(wantWay(c.center, wantPoint(c.ray, fraction))), true}
}

// crossing is where a ray crosses the line of an edge.
type crossing struct {
	at     int
	normal api.Vec
}

// crossings are those where the ray comes in and those where it goes out. It is false if the ray runs outside of an edge, beside it.
func crossings(o outline) (entries, exits []crossing, ok bool) {
	d := wantWay(o.from, o.to)
	for i, start := range o.vertices {
		n := right(wantDirection(wantWay(start, o.vertices[(i+1)%len(o.vertices)])))
		ahead, speed := wantDot(n, wantWay(o.from, start)), wantDot(n, d)
		if speed == 0 && ahead < 0 {
			return nil, nil, false
		}
		if speed == 0 {
			continue
		}
		c := crossing{saturated(divided(ahead*one, speed)), n}
		if speed < 0 {
			entries = append(entries, c)
		} else {
			exits = append(exits, c)
		}
	}
	return entries, exits, true
}

func wantPolygon(o outline) hit {
	entries, exits, ok := crossings(o)
	if !ok || len(entries) == 0 {
		return hit{}
	}
	later := func(a, b crossing) int { return a.at - b.at }
	// Of several largest entries MaxFunc takes the first one.
	last := slices.MaxFunc(entries, later)
	if last.at < 0 || last.at > one || len(exits) > 0 && slices.MinFunc(exits, later).at < last.at {
		return hit{}
	}
	return hit{last.at, last.normal, true}
}

// wantParts are the hits of the ray and the parts of a capsule: both caps and the rectangle between them.
func wantParts(p, q api.Vec, radius int, r ray) []hit {
	u := right(wantDirection(wantWay(p, q)))
	w := vec(divided(u.X*radius, one), divided(u.Y*radius, one))
	corners := []api.Vec{plus(p, w), plus(q, w), minus(q, w), minus(p, w)}
	for i, v := range corners {
		corners[i] = saturatedVec(v)
	}
	return []hit{wantCircle(disk{p, radius, r}), wantCircle(disk{q, radius, r}), wantPolygon(outline{corners, r})}
}

func wantCast(a aimed) hit {
	core := shape.Vertices(a.s, a.t)
	switch {
	case core == nil:
		return hit{}
	case shape.ContainsPoint(a.s, a.t, a.from):
		return hit{found: true}
	case a.s.Kind == api.Circle:
		return wantCircle(disk{core[0], a.s.Radius, a.ray})
	case a.s.Kind == api.Polygon:
		return wantPolygon(outline{core, a.ray})
	}
	parts := slices.DeleteFunc(wantParts(core[0], core[1], a.s.Radius, a.ray), func(h hit) bool { return !h.found })
	if len(parts) == 0 {
		return hit{}
	}
	// Of several smallest fractions MinFunc takes the first one.
	return slices.MinFunc(parts, func(a, b hit) int { return a.at - b.at })
}

// point is a point with real coordinates.
type point struct{ x, y float64 }

func pointOf(v api.Vec) point {
	return point{float64(v.X), float64(v.Y)}
}

func (p point) minus(q point) point {
	return point{p.x - q.x, p.y - q.y}
}

func (p point) dot(q point) float64 {
	return p.x*q.x + p.y*q.y
}

func (p point) length() float64 {
	return math.Hypot(p.x, p.y)
}

// truePoint is the point at the fraction of the ray, without rounding.
func (r ray) truePoint(fraction float64) point {
	from, d := pointOf(r.from), pointOf(minus(r.to, r.from))
	return point{from.x + d.x*fraction, from.y + d.y*fraction}
}

// trueDepth tells how deep p lies in the shape with that core, which is negative outside.
func trueDepth(core []api.Vec, radius int, p point) float64 {
	switch len(core) {
	case 1:
		return float64(radius) - p.minus(pointOf(core[0])).length()
	case 2:
		axis, arm := pointOf(core[1]).minus(pointOf(core[0])), p.minus(pointOf(core[0]))
		part := min(1, max(0, arm.dot(axis)/axis.dot(axis)))
		return float64(radius) - arm.minus(point{axis.x * part, axis.y * part}).length()
	}
	depth := math.Inf(1)
	for i, from := range core {
		edge, arm := pointOf(minus(core[(i+1)%len(core)], from)), p.minus(pointOf(from))
		depth = min(depth, (edge.x*arm.y-edge.y*arm.x)/edge.length())
	}
	return depth
}

// trueDepth tells how deep in the shape the ray is at a fraction.
func (a aimed) trueDepth(core []api.Vec, fraction float64) float64 {
	return trueDepth(core, a.s.Radius, a.truePoint(fraction))
}

// greatestDepth is the greatest depth of the ray up to a fraction. As shapes are convex, the depth rises to it and falls after it.
func (a aimed) greatestDepth(core []api.Vec, end float64) float64 {
	start := 0.0
	for range 100 {
		left, right := start+(end-start)/3, end-(end-start)/3
		if a.trueDepth(core, left) < a.trueDepth(core, right) {
			start = left
		} else {
			end = right
		}
	}
	return a.trueDepth(core, start)
}

// tolerance is how far a hit may be off by rounding: directions are off by half a unit, those of short rays and of short axes by more, so that the sides of a capsule stick out.
func (a aimed) tolerance(core []api.Vec) float64 {
	way, length := 0.0, pointOf(minus(a.to, a.from)).length()
	for _, v := range core {
		way = max(way, pointOf(minus(v, a.from)).length())
	}
	tolerance := 4 + 2*(way+length)/one + 3*way/(length+1)
	if a.s.Kind == api.Capsule {
		tolerance += float64(a.s.Radius) / pointOf(minus(core[1], core[0])).length()
	}
	return tolerance
}

// dice draws numbers, the same ones for each seed.
type dice struct{ source *rand.Rand }

func newDice(seed int64) dice {
	return dice{rand.New(rand.NewSource(seed))}
}

// pick draws one of the numbers.
func (d dice) pick(numbers ...int) int {
	return numbers[d.source.Intn(len(numbers))]
}

// number draws a number from -scale to scale.
func (d dice) number(scale int) int {
	return d.source.Intn(2*scale+1) - scale
}

func (d dice) point(scale int) api.Vec {
	return vec(d.number(scale), d.number(scale))
}

func (d dice) points(count, scale int) []api.Vec {
	var list []api.Vec
	for range count {
		list = append(list, d.point(scale))
	}
	return list
}

// anyNumber draws a number of any size up to the ends of the ints.
func (d dice) anyNumber() int {
	return int(d.source.Uint64()) >> d.source.Intn(64)
}

func (d dice) anyPoint() api.Vec {
	return vec(d.anyNumber(), d.anyNumber())
}

func (d dice) anyRay() ray {
	return ray{d.anyPoint(), d.anyPoint()}
}

// scale draws the size of the numbers of one sample: small ones round much, great ones are saturated.
func (d dice) scale() int {
	return d.pick(3, 10, 300, one/8, one, 5*one, limit, 100*one, world, most, 3*most)
}

// radius draws the radius of a valid shape.
func (d dice) radius() int {
	return d.pick(api.MinRadius, api.MaxRadius, one, api.MinRadius+d.source.Intn(one/8), api.MinRadius+d.source.Intn(one), api.MinRadius+d.source.Intn(api.MaxRadius-api.MinRadius))
}

// rayNear draws a ray that passes the spot at a distance about reach or less, often exactly at it, and that often starts or ends there as well.
func (d dice) rayNear(spot api.Vec, reach int) ray {
	angle := d.source.Float64() * 2 * math.Pi
	if d.source.Intn(2) == 0 {
		angle = math.Pi / 2 * float64(d.source.Intn(4))
	}
	size := d.pick(one/16, one, 20*one, 20*one, 300*one)
	aside := d.pick(0, 0, reach, -reach, reach+1, reach-1, d.number(reach+3), d.number(reach+3), d.number(2*reach+one/8))
	before := d.pick(0, reach, reach+1, reach-1, reach+d.source.Intn(size), reach+d.source.Intn(size), reach+d.source.Intn(size), d.number(size))
	after := d.pick(0, -reach, -reach-1, 1-reach, d.source.Intn(size), d.source.Intn(size), d.number(size))
	cos, sin := math.Cos(angle), math.Sin(angle)
	at := func(ahead, aside int) api.Vec {
		x, y := float64(ahead), float64(aside)
		return plus(spot, vec(int(math.Round(cos*x-sin*y)), int(math.Round(sin*x+cos*y))))
	}
	return ray{at(-before, aside), at(after, aside)}
}

// The samples are drawn once, as several tests go through them.
var (
	disks    = sync.OnceValue(drawDisks)
	outlines = sync.OnceValue(drawOutlines)
	meetings = sync.OnceValue(drawMeetings)
	strays   = sync.OnceValue(drawStrays)
)

func targets() []aimed {
	return slices.Concat(meetings(), strays())
}

// drawDisks draws circles with rays near them, and circles and rays of any size.
func drawDisks() []disk {
	var list []disk
	dice := newDice(1)
	for range 60000 {
		scale := dice.scale()
		c := disk{dice.point(scale), dice.pick(0, 1, -1, dice.number(scale), dice.source.Intn(scale), dice.radius(), most, most+1), ray{}}
		switch dice.source.Intn(4) {
		case 0:
			c.ray = dice.anyRay()
		case 1:
			c.ray = ray{dice.point(scale), dice.point(scale)}
		default:
			c.radius = dice.pick(0, 1, dice.radius(), dice.radius(), dice.source.Intn(limit))
			c.ray = dice.rayNear(c.center, c.radius)
		}
		list = append(list, c)
	}
	return list
}

// vertices draws a list of vertices: convex or of any form, some of which may coincide.
func (d dice) vertices(scale int) []api.Vec {
	if scale <= limit && d.source.Intn(3) != 0 {
		return d.corners(func() api.Vec { return d.point(scale) })
	}
	list := d.points(d.source.Intn(10), scale)
	if len(list) > 0 && d.source.Intn(3) == 0 {
		i := d.source.Intn(len(list))
		list = slices.Insert(list, i, list[i])
	}
	return list
}

// corners draws the hull of several points, starting at any corner.
func (d dice) corners(near func() api.Vec) []api.Vec {
	var points []api.Vec
	for range 1 + d.source.Intn(14) {
		points = append(points, near())
	}
	hull := polygon.ConvexHull(points)
	i := d.source.Intn(len(hull))
	return slices.Concat(hull[i:], hull[:i])
}

// drawOutlines draws lists of vertices with rays through them and near them, and with any rays.
func drawOutlines() []outline {
	var list []outline
	dice := newDice(2)
	for range 60000 {
		scale := dice.scale()
		o := outline{dice.vertices(scale), ray{}}
		switch {
		case dice.source.Intn(5) == 0:
			o.ray = dice.anyRay()
		case dice.source.Intn(3) == 0 || len(o.vertices) == 0:
			o.ray = ray{dice.point(scale), dice.point(scale)}
		case dice.source.Intn(5) == 0:
			spot := dice.spot(o.vertices)
			o.ray = ray{plus(spot, dice.point(2)), plus(spot, dice.point(2))}
		default:
			o.ray = dice.rayNear(dice.spot(o.vertices), 0)
		}
		list = append(list, o)
	}
	return list
}

// shape draws a valid shape: of any form, or with edges along the axes.
func (d dice) shape() api.Shape {
	for {
		scale := d.pick(one/8, one/4, one, 5*one, limit)
		center := d.point(limit - scale)
		near := func() api.Vec { return plus(center, d.point(scale)) }
		p, q := near(), near()
		var s api.Shape
		switch d.source.Intn(5) {
		case 0:
			s = disc(d.radius(), p.X, p.Y)
		case 1:
			s = pill(d.radius(), p.X, p.Y, q.X, q.Y)
		case 2:
			s = pill(d.radius(), p.X, p.Y, p.X, q.Y)
		case 3:
			s = poly(min(p.X, q.X), min(p.Y, q.Y), max(p.X, q.X), min(p.Y, q.Y), max(p.X, q.X), max(p.Y, q.Y), min(p.X, q.X), max(p.Y, q.Y))
		case 4:
			s = api.Shape{Kind: api.Polygon, Vertices: d.corners(near)}
		}
		if shape.Validate(s) == api.OK {
			return s
		}
	}
}

// turn draws an angle: a multiple of a right angle, or any.
func (d dice) turn() int {
	return d.pick(0, 0, quarter, -quarter, -2*quarter, d.number(2*quarter), d.number(2*quarter), d.number(10))
}

// spot draws a point of a core: a vertex, a point between two, or the middle.
func (d dice) spot(core []api.Vec) api.Vec {
	v, w := core[d.source.Intn(len(core))], core[d.source.Intn(len(core))]
	switch d.source.Intn(3) {
	case 0:
		return v
	case 1:
		return wantPoint(ray{v, w}, d.source.Intn(one+1))
	}
	var sum api.Vec
	for _, v := range core {
		sum = plus(sum, saturatedVec(v))
	}
	return vec(sum.X/len(core), sum.Y/len(core))
}

// drawMeetings draws valid shapes in the world with rays that meet them, touch them, or pass near them, in every way.
func drawMeetings() []aimed {
	var list []aimed
	dice := newDice(3)
	for range 60000 {
		a := aimed{dice.shape(), at(0, 0, dice.turn()), ray{}}
		a.t.Position = dice.point(dice.pick(0, one, 1000*one, world/2))
		a.ray = dice.rayNear(dice.spot(shape.Vertices(a.s, a.t)), a.s.Radius)
		list = append(list, a)
	}
	return list
}

// drawStrays draws shapes at any place, most of them far away where sums saturate, and invalid ones.
func drawStrays() []aimed {
	var list []aimed
	dice := newDice(4)
	edge := func() int {
		return dice.pick(most, -most, 0) + dice.number(dice.pick(1, one, 20*one))
	}
	for range 20000 {
		a := aimed{dice.shape(), at(edge(), edge(), dice.turn()), ray{}}
		a.ray = dice.rayNear(a.t.Position, dice.pick(0, a.s.Radius, 10*one))
		switch dice.source.Intn(6) {
		case 0:
			a.t = at(dice.anyNumber(), dice.anyNumber(), dice.anyNumber())
		case 1:
			a.ray = dice.anyRay()
		case 2:
			a.from = vec(edge(), edge())
		case 3:
			a.to = vec(edge(), edge())
		case 4:
			a.s = dice.spoiled(a.s)
		}
		list = append(list, a)
	}
	return list
}

// spoiled is s with one thing changed, so that it is most often invalid.
func (d dice) spoiled(s api.Shape) api.Shape {
	s.Vertices = slices.Clone(s.Vertices)
	switch d.source.Intn(5) {
	case 0:
		s.Kind = api.ShapeKind(d.pick(0, 1, 2, 3, 4, -1, d.anyNumber()))
	case 1:
		s.Radius = d.pick(0, 1, -1, api.MinRadius-1, api.MaxRadius+1, d.anyNumber())
	case 2:
		s.Vertices = append(s.Vertices, d.point(limit))
	case 3:
		s.Vertices = s.Vertices[1:]
	case 4:
		slices.Reverse(s.Vertices)
	}
	return s
}
