package body_test

import (
	"math/rand"
	"slices"

	"carom/api"
	"carom/polygon"
	"carom/shape"
	"carom/transform"
)

// dice draws numbers, the same ones for each seed.
type dice struct{ source *rand.Rand }

func newDice(seed int64) dice {
	return dice{rand.New(rand.NewSource(seed))}
}

// pick draws one of the numbers.
func (d dice) pick(numbers ...int) int {
	return numbers[d.source.Intn(len(numbers))]
}

// oneIn is true once in some times.
func (d dice) oneIn(times int) bool {
	return d.source.Intn(times) == 0
}

// number draws a number from -scale to scale.
func (d dice) number(scale int) int {
	return d.source.Intn(2*scale+1) - scale
}

// between draws a number of a range, often one of its ends.
func (d dice) between(low, high int) int {
	if d.oneIn(4) {
		return d.pick(low, high)
	}
	return low + d.source.Intn(high-low+1)
}

// anyNumber draws a number of any size up to the ends of the ints.
func (d dice) anyNumber() int {
	return int(d.source.Uint64()) >> d.source.Intn(64)
}

func (d dice) vec(scale int) api.Vec {
	return vec(d.number(scale), d.number(scale))
}

func (d dice) anyVec() api.Vec {
	return vec(d.anyNumber(), d.anyNumber())
}

// shape draws a valid shape.
func (d dice) shape() api.Shape {
	for {
		scale := d.pick(one/8, one, 5*one, 16*one)
		center := d.vec(16*one - scale)
		if s := d.candidate(center, scale); shape.Validate(s) == api.OK {
			return s
		}
	}
}

// candidate draws a shape near the center, most of which are valid.
func (d dice) candidate(center api.Vec, scale int) api.Shape {
	var points []api.Vec
	for range 3 + d.source.Intn(6) {
		v := d.vec(scale)
		points = append(points, vec(center.X+v.X, center.Y+v.Y))
	}
	radius := d.between(api.MinRadius, min(api.MaxRadius, api.MinRadius+scale))
	switch d.source.Intn(3) {
	case 0:
		return api.Shape{Kind: api.Circle, Radius: radius, Vertices: points[:1]}
	case 1:
		return api.Shape{Kind: api.Capsule, Radius: radius, Vertices: points[:2]}
	}
	return api.Shape{Kind: api.Polygon, Vertices: polygon.ConvexHull(points)}
}

// validFixture draws a fixture with numbers from their whole ranges.
func (d dice) validFixture() api.Fixture {
	f := api.Fixture{Shape: d.shape(), Sensor: d.oneIn(4)}
	for _, n := range fixtureNumbers() {
		n.set(&f, d.between(n.low, n.high))
	}
	return f
}

// validBody draws a body with numbers from their whole ranges.
func (d dice) validBody() api.Body {
	b := api.Body{Kind: api.BodyKind(d.pick(1, 2, 3, 3, 3, 3)), FixedRotation: d.oneIn(4), NoSleep: d.oneIn(2)}
	for _, n := range restingNumbers() {
		n.set(&b, d.between(n.low, n.high))
	}
	if d.oneIn(2) {
		b.Transform.Position = d.vec(20 * one)
	}
	if b.Kind != api.Static {
		for _, n := range forceNumbers() {
			n.set(&b, d.between(n.low, n.high))
		}
	}
	if b.Kind == api.Dynamic {
		b.Asleep, b.Bullet = d.oneIn(4), d.oneIn(4)
	}
	if b.Kind != api.Static && !b.Asleep {
		b.Velocity, b.AngularVelocity = d.vec(d.pick(one, 20*one, fast)), d.number(d.pick(one, 8*one, quick))
	}
	for range d.source.Intn(5) {
		b.Fixtures = append(b.Fixtures, d.validFixture())
	}
	return b
}

// spoiled is a body that differs from b in one thing, which makes most bodies invalid.
func (d dice) spoiled(b api.Body) api.Body {
	b = copyOf(b)
	numbers, moves := bodyNumbers(), activeNumbers()
	switch d.source.Intn(7) {
	case 0:
		b.Kind = api.BodyKind(d.pick(-1, 0, 1, 2, 3, 4, d.anyNumber()))
	case 1:
		n := numbers[d.source.Intn(len(numbers))]
		n.set(&b, d.pick(n.low-1, n.high+1, d.anyNumber()))
	case 2:
		b.Fixtures = append(b.Fixtures, slices.Repeat([]api.Fixture{d.validFixture()}, d.source.Intn(5))...)
	case 3:
		b.Fixtures = append(b.Fixtures, d.spoiledFixture(d.validFixture()))
	case 4:
		b.Asleep = true
	case 5:
		b.Bullet = true
	case 6:
		n := moves[d.source.Intn(len(moves))]
		n.set(&b, d.pick(1, -1, n.low, n.high))
	}
	return b
}

// spoiledFixture is a fixture that differs from f in one number or in its shape.
func (d dice) spoiledFixture(f api.Fixture) api.Fixture {
	numbers, faulty := fixtureNumbers(), faultyShapes()
	if d.oneIn(2) {
		f.Shape = faulty[d.source.Intn(len(faulty))].s
		return f
	}
	n := numbers[d.source.Intn(len(numbers))]
	n.set(&f, d.pick(n.low-1, n.high+1, d.anyNumber()))
	return f
}

// wildBody is a body with numbers of any size.
func (d dice) wildBody() api.Body {
	b := d.validBody()
	for _, n := range bodyNumbers() {
		if d.oneIn(2) {
			n.set(&b, d.anyNumber())
		}
	}
	return b
}

// anyBodies are valid bodies, some that break a rule or two, and wild ones.
func anyBodies(seed int64) []api.Body {
	var list []api.Body
	d := newDice(seed)
	for range 2000 {
		b := d.validBody()
		list = append(list, b, d.spoiled(b), d.spoiled(d.spoiled(b)), d.wildBody())
	}
	return list
}

// pointNear draws a point near the body.
func (d dice) pointNear(b api.Body) api.Vec {
	at, away := b.Transform.Position, d.vec(d.pick(5, one, 20*one, 200*one))
	return vec(saturated(at.X)+away.X, saturated(at.Y)+away.Y)
}

// pointOn draws a point about the border of a fixture, or near the body.
func (d dice) pointOn(b api.Body) api.Vec {
	if len(b.Fixtures) == 0 || d.oneIn(3) {
		return d.pointNear(b)
	}
	f := b.Fixtures[d.source.Intn(len(b.Fixtures))]
	if len(f.Shape.Vertices) == 0 {
		return d.pointNear(b)
	}
	v := transform.Apply(b.Transform, f.Shape.Vertices[d.source.Intn(len(f.Shape.Vertices))])
	radius := saturated(f.Shape.Radius) + d.number(2)
	return []api.Vec{vec(v.X+radius, v.Y), vec(v.X-radius, v.Y), vec(v.X, v.Y+radius), vec(v.X, v.Y-radius), v}[d.source.Intn(5)]
}

// anyPointed are bodies with points on them, near them and at any distance.
func anyPointed(seed int64) []pointed {
	var list []pointed
	d := newDice(seed + 1000)
	for _, b := range anyBodies(seed) {
		list = append(list, pointed{b, d.pointOn(b)}, pointed{b, d.pointNear(b)}, pointed{b, d.anyVec()})
	}
	return list
}

func anyPushed(seed int64) []pushed {
	var list []pushed
	d := newDice(seed + 1000)
	for _, p := range anyPointed(seed) {
		list = append(list, pushed{p.b, p.point, d.vec(d.pick(5, one, 100*one))}, pushed{p.b, p.point, d.anyVec()})
	}
	return list
}

func anySpun(seed int64) []spun {
	var list []spun
	d := newDice(seed + 1000)
	for _, b := range anyBodies(seed) {
		list = append(list, spun{b, d.number(d.pick(5, one, 100*one))}, spun{b, d.anyNumber()})
	}
	return list
}
