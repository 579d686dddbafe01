package toi_test

import (
	"math"
	"math/big"
	"math/rand"
	"slices"
	"sync"

	"carom/api"
	"carom/distance"
	"carom/polygon"
	"carom/shape"
)

// The functions of this file work the promised bounds and times out by plain ints. They share with the lower layers only the cores of shapes and the separations, which packages shape and distance test.

func saturated(x int) int {
	return min(max(x, -most), most)
}

// divided is n/d for a positive d, halves away from zero.
func divided(n, d int) int {
	if n < 0 {
		return -divided(-n, d)
	}
	return (n + d/2) / d
}

// root is the square root of n, rounded down.
func root(n int) int {
	return int(new(big.Int).Sqrt(big.NewInt(int64(n))).Int64())
}

// wrapped is the angle without whole turns, from half a turn to the right on.
func wrapped(a int) int {
	ahead := new(big.Int).Add(big.NewInt(int64(a)), big.NewInt(2*quarter))
	return int(ahead.Mod(ahead, big.NewInt(4*quarter)).Int64()) - 2*quarter
}

func isValid(s api.Shape) bool {
	return shape.Validate(s) == api.OK
}

// reach is the distance from the local origin to the farthest point of the shape.
func reach(s api.Shape) int {
	farthest := 0
	for _, v := range s.Vertices {
		farthest = max(farthest, v.X*v.X+v.Y*v.Y)
	}
	return root(farthest) + s.Radius
}

func wantBound(m travel) int {
	if !isValid(m.s) {
		return 0
	}
	x := saturated(saturated(m.to.Position.X) - saturated(m.from.Position.X))
	y := saturated(saturated(m.to.Position.Y) - saturated(m.from.Position.Y))
	turn := wrapped(wrapped(m.to.Angle) - wrapped(m.from.Angle))
	return min(most, root(x*x+y*y)+divided(max(turn, -turn)*reach(m.s), one)+4)
}

// part is the number at that time of the way from one number to another.
func part(from, to, time int) int {
	from, to = saturated(from), saturated(to)
	return saturated(from + divided(saturated(to-from)*time, one))
}

// place is where the shape is at that time.
func (m travel) place(time int) api.Transform {
	first, turn := wrapped(m.from.Angle), wrapped(wrapped(m.to.Angle)-wrapped(m.from.Angle))
	return at(
		part(m.from.Position.X, m.to.Position.X, time),
		part(m.from.Position.Y, m.to.Position.Y, time),
		wrapped(first+divided(turn*time, one)),
	)
}

// gap is the separation of the shapes at that time.
func (m motion) gap(time int) int {
	return distance.Separation(m.a.s, m.a.place(time), m.b.s, m.b.place(time))
}

// stops are the times at which the advancement looks at the shapes, one after the other, until they are close or it leads beyond the end. There may be one more of them than the advancement takes.
func (m motion) stops() []int {
	both := wantBound(m.a) + wantBound(m.b)
	times := []int{0}
	for len(times) <= 40 {
		last := times[len(times)-1]
		gap := m.gap(last)
		if gap <= slop || last > one {
			break
		}
		times = append(times, last+max(1, gap*32768/both))
	}
	return times
}

func wantImpact(m motion) impact {
	if !isValid(m.a.s) || !isValid(m.b.s) {
		return impact{}
	}
	times := m.stops()
	if last := times[len(times)-1]; last <= one {
		return impact{last, true}
	}
	return impact{}
}

// isBrokenOff tells whether the advancement of valid shapes ends before they are close, at its last step.
func (m motion) isBrokenOff() bool {
	times := m.stops()
	return len(times) == 41 && times[40] <= one
}

// isGentle tells whether P19.3 speaks of the motion.
func (m motion) isGentle() bool {
	return m.inWorld() && wantBound(m.a)+wantBound(m.b) <= 128*one
}

// inWorld tells whether the shapes and the transforms are valid.
func (m motion) inWorld() bool {
	for _, t := range []api.Transform{m.a.from, m.a.to, m.b.from, m.b.to} {
		far := max(t.Position.X, -t.Position.X, t.Position.Y, -t.Position.Y)
		if far > world || t.Angle != wrapped(t.Angle) {
			return false
		}
	}
	return isValid(m.a.s) && isValid(m.b.s)
}

// circling holds the ways of two circles without rounding: where the second one is as seen from the first one, and how it moves.
type circling struct{ x, y, dx, dy, radii float64 }

// circlingOf is for circles whose origins are their centers.
func circlingOf(m motion) circling {
	relative := func(first, second api.Transform) (x, y float64) {
		return float64(second.Position.X - first.Position.X), float64(second.Position.Y - first.Position.Y)
	}
	x, y := relative(m.a.from, m.b.from)
	endX, endY := relative(m.a.to, m.b.to)
	return circling{x, y, endX - x, endY - y, float64(m.a.s.Radius + m.b.s.Radius)}
}

// gap is the distance of the circles at that part of the time, which is negative where they overlap.
func (c circling) gap(time float64) float64 {
	return math.Hypot(c.x+c.dx*time, c.y+c.dy*time) - c.radii
}

// least is the smallest distance of the circles up to that part of the time.
func (c circling) least(end float64) float64 {
	speed := c.dx*c.dx + c.dy*c.dy
	if speed == 0 {
		return c.gap(0)
	}
	return c.gap(min(end, max(0, -(c.x*c.dx+c.y*c.dy)/speed)))
}

// dice draws numbers, the same ones for each seed.
type dice struct{ source *rand.Rand }

func newDice(seed int64) dice {
	return dice{rand.New(rand.NewSource(seed))}
}

// pick draws one of the numbers.
func (d dice) pick(numbers ...int) int {
	return numbers[d.source.Intn(len(numbers))]
}

// number draws a number from -scale to scale.
func (d dice) number(scale int) int {
	return d.source.Intn(2*scale+1) - scale
}

func (d dice) point(scale int) api.Vec {
	return vec(d.number(scale), d.number(scale))
}

// anyNumber draws a number of any size up to the ends of the ints.
func (d dice) anyNumber() int {
	return int(d.source.Uint64()) >> d.source.Intn(64)
}

func (d dice) anyTransform() api.Transform {
	return at(d.anyNumber(), d.anyNumber(), d.anyNumber())
}

func (d dice) radius() int {
	return d.pick(least, greatest, one, least+d.source.Intn(one/8), least+d.source.Intn(one), least+d.source.Intn(greatest-least))
}

// shape draws a valid shape: of any form, or with edges along the axes, so that those of two shapes are parallel.
func (d dice) shape() api.Shape {
	for {
		scale := d.pick(one/8, one/4, one, 5*one, limit)
		center := d.point(d.pick(0, one, limit-scale))
		near := func() api.Vec { return plus(center, d.point(min(scale, limit-one))) }
		p, q := near(), near()
		var s api.Shape
		switch d.source.Intn(6) {
		case 0:
			s = disc(d.radius(), p.X, p.Y)
		case 1:
			s = disc(d.radius(), 0, 0)
		case 2:
			s = pill(d.radius(), p.X, p.Y, q.X, q.Y)
		case 3:
			s = pill(d.radius(), p.X, p.Y, p.X, q.Y)
		case 4:
			s = poly(min(p.X, q.X), min(p.Y, q.Y), max(p.X, q.X), min(p.Y, q.Y), max(p.X, q.X), max(p.Y, q.Y), min(p.X, q.X), max(p.Y, q.Y))
		case 5:
			s = d.polygon(near)
		}
		if isValid(s) {
			return s
		}
	}
}

// polygon draws the hull of several points, starting at any corner. It may be invalid.
func (d dice) polygon(near func() api.Vec) api.Shape {
	var points []api.Vec
	for range 3 + d.source.Intn(9) {
		points = append(points, near())
	}
	corners := polygon.ConvexHull(points)
	i := d.source.Intn(len(corners))
	return api.Shape{Kind: api.Polygon, Vertices: slices.Concat(corners[i:], corners[:i])}
}

// angle draws an angle: a multiple of a right angle, or any.
func (d dice) angle() int {
	return d.pick(0, 0, quarter, -quarter, -2*quarter, d.number(2*quarter), d.number(2*quarter), d.number(10))
}

// spot draws a point of a core: a vertex, or the middle.
func (d dice) spot(core []api.Vec) api.Vec {
	if d.source.Intn(2) == 0 {
		return core[d.source.Intn(len(core))]
	}
	var sum api.Vec
	for _, v := range core {
		sum = plus(sum, v)
	}
	return vec(sum.X/len(core), sum.Y/len(core))
}

// step draws the way from a point of one core to a point of the other, whose length is often that at which shapes with these radii touch.
func (d dice) step(radii int) api.Vec {
	direction := d.source.Float64() * 2 * math.Pi
	length := float64(d.pick(0, d.source.Intn(one), d.source.Intn(20*one), radii, radii+slop, radii+d.source.Intn(1000), radii+d.source.Intn(one/8), radii+d.source.Intn(5*one)))
	return vec(int(math.Round(length*math.Cos(direction))), int(math.Round(length*math.Sin(direction))))
}

// ride draws how far a shape moves and turns.
func (d dice) ride() api.Transform {
	way := d.point(d.pick(0, 0, 10, one, 10*one, 20*one, 40*one, 40*one, 1000*one))
	switch d.source.Intn(4) {
	case 0:
		way.X = 0
	case 1:
		way.Y = 0
	}
	turn := d.pick(0, 0, d.number(100), d.number(one/8), d.number(quarter), d.number(2*quarter))
	return api.Transform{Position: way, Angle: turn}
}

// through is the ride of the shape that is at the transform t when that part of the time is over.
func through(s api.Shape, t, ride api.Transform, time float64) travel {
	point := func(time float64) api.Transform {
		scaled := func(x int) int { return int(math.Round(float64(x) * time)) }
		return at(t.Position.X+scaled(ride.Position.X), t.Position.Y+scaled(ride.Position.Y), wrapped(t.Angle+scaled(ride.Angle)))
	}
	return travel{s, point(-time), point(1 - time)}
}

// The samples are drawn once, as several tests go through them.
var (
	meetings = sync.OnceValue(drawMeetings)
	strays   = sync.OnceValue(drawStrays)
)

func motions() []motion {
	return slices.Concat(meetings(), strays())
}

// drawMeetings draws motions of valid shapes in the world that are near each other, or within, at some time.
func drawMeetings() []motion {
	var list []motion
	dice := newDice(1)
	for range 9000 {
		a, b := dice.shape(), dice.shape()
		ta, tb := at(0, 0, dice.angle()), at(0, 0, dice.angle())
		ta.Position = dice.point(dice.pick(0, one, 1000*one, world/2))
		from, to := dice.spot(shape.Vertices(a, ta)), dice.spot(shape.Vertices(b, tb))
		tb.Position = plus(minus(from, to), dice.step(a.Radius+b.Radius))
		first, second := dice.ride(), dice.ride()
		if dice.source.Intn(8) == 0 {
			second.Position = first.Position
		}
		time := max(0, min(1, dice.source.Float64()*1.4-0.2))
		list = append(list, motion{through(a, ta, first, time), through(b, tb, second, time)})
	}
	return list
}

// drawStrays draws motions of valid shapes to and from any place, most of them far away where sums saturate, and of invalid ones.
func drawStrays() []motion {
	var list []motion
	dice := newDice(2)
	edge := func() int {
		return dice.pick(most, -most, 0, world, -world) + dice.number(dice.pick(1, one, 20*one))
	}
	near := func(t api.Transform) api.Transform {
		shift := dice.point(dice.pick(1, one, 20*one))
		return at(t.Position.X+shift.X, t.Position.Y+shift.Y, dice.angle())
	}
	for range 4000 {
		a0, a1 := at(edge(), edge(), dice.angle()), at(edge(), edge(), dice.angle())
		m := motion{travel{dice.shape(), a0, a1}, travel{dice.shape(), near(a0), near(a1)}}
		switch dice.source.Intn(7) {
		case 0:
			m.a.to, m.b.to = near(a0), near(a0)
		case 1:
			m.b.from, m.b.to = m.b.to, m.b.from
		case 2:
			m.a.from, m.a.to = dice.anyTransform(), dice.anyTransform()
		case 3:
			m.a.from, m.a.to, m.b.from, m.b.to = dice.anyTransform(), dice.anyTransform(), dice.anyTransform(), dice.anyTransform()
		case 4:
			m.a.s = dice.spoiled(m.a.s)
		case 5:
			m.b.s = dice.spoiled(m.b.s)
		}
		list = append(list, m)
	}
	return list
}

// spoiled is s with one thing changed, so that it is most often invalid.
func (d dice) spoiled(s api.Shape) api.Shape {
	s.Vertices = slices.Clone(s.Vertices)
	switch d.source.Intn(5) {
	case 0:
		s.Kind = api.ShapeKind(d.pick(0, 1, 2, 3, 4, -1, d.anyNumber()))
	case 1:
		s.Radius = d.pick(0, 1, -1, least-1, greatest+1, d.anyNumber())
	case 2:
		s.Vertices = append(s.Vertices, d.point(limit))
	case 3:
		s.Vertices = s.Vertices[1:]
	case 4:
		slices.Reverse(s.Vertices)
	}
	return s
}

// circlings draws motions of circles about their centers, so that turns change nothing.
func circlings() []motion {
	var list []motion
	dice := newDice(3)
	for range 4000 {
		a, b := disc(dice.radius(), 0, 0), disc(dice.radius(), 0, 0)
		ta := at(dice.number(1000*one), dice.number(1000*one), 0)
		tb := api.Transform{Position: plus(ta.Position, dice.step(a.Radius+b.Radius))}
		time := dice.source.Float64()
		m := motion{through(a, ta, dice.ride(), time), through(b, tb, dice.ride(), time)}
		if dice.source.Intn(2) == 0 {
			m.a.to.Angle, m.b.to.Angle = m.a.from.Angle, m.b.from.Angle
		}
		list = append(list, m)
	}
	return list
}
