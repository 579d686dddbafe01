package body_test

import (
	"math"
	"reflect"
	"slices"
	"testing"

	"carom/api"
	"carom/body"
)

const (
	one     = api.One
	half    = api.One / 2
	quarter = api.HalfPi
	pi      = api.Pi
	fast    = api.MaxSpeed
	quick   = api.MaxAngularSpeed
	world   = api.WorldLimit
	most    = api.MaxValue
	far     = 1 << 40
	low     = math.MinInt
	high    = math.MaxInt
)

// row is a row of a table: the arguments and the value that the chapter asks for.
type row[A, R any] struct {
	args A
	want R
}

func vec(x, y int) api.Vec {
	return api.Vec{X: x, Y: y}
}

func at(x, y, angle int) api.Transform {
	return api.Transform{Position: vec(x, y), Angle: angle}
}

// path makes points of pairs of coordinates.
func path(coordinates ...int) []api.Vec {
	var list []api.Vec
	for i := 0; i+1 < len(coordinates); i += 2 {
		list = append(list, vec(coordinates[i], coordinates[i+1]))
	}
	return list
}

func circle(radius, x, y int) api.Shape {
	return api.Shape{Kind: api.Circle, Radius: radius, Vertices: path(x, y)}
}

func capsule(radius int, coordinates ...int) api.Shape {
	return api.Shape{Kind: api.Capsule, Radius: radius, Vertices: path(coordinates...)}
}

func poly(coordinates ...int) api.Shape {
	return api.Shape{Kind: api.Polygon, Vertices: path(coordinates...)}
}

// box is a polygon with its sides at these coordinates.
func box(left, bottom, right, top int) api.Shape {
	return poly(left, bottom, right, bottom, right, top, left, top)
}

func fixture(s api.Shape, density int) api.Fixture {
	return api.Fixture{Shape: s, Density: density, Friction: half, Restitution: half, Category: 1, Mask: 1}
}

// sensor is a heavy fixture that has no mass.
func sensor(s api.Shape) api.Fixture {
	f := fixture(s, 4*one)
	f.Sensor = true
	return f
}

func dynamic(fixtures ...api.Fixture) api.Body {
	return api.Body{ID: 1, Kind: api.Dynamic, GravityScale: one, Fixtures: fixtures}
}

// disc has the mass Pi and the inertia Pi/2 about its position.
func disc() api.Body {
	return dynamic(fixture(circle(one, 0, 0), one))
}

// block has the mass 4 and the inertia 2.67 about its position.
func block() api.Body {
	return dynamic(fixture(box(-one, -one, one, one), one))
}

// pair has its center at (1, 0), as its right half weighs three times as much as the left one. A sensor does not count.
func pair() api.Body {
	return dynamic(fixture(circle(one, -2*one, 0), one), sensor(circle(8*one, 0, 9*one)), fixture(circle(one, 2*one, 0), 3*one))
}

// kinds are all kinds of bodies.
func kinds() []api.BodyKind {
	return []api.BodyKind{api.Static, api.Kinematic, api.Dynamic}
}

// with returns a copy of b after some changes.
func with(b api.Body, changes ...func(*api.Body)) api.Body {
	b = copyOf(b)
	for _, change := range changes {
		change(&b)
	}
	return b
}

func ofKind(kind api.BodyKind, b api.Body) api.Body {
	return with(b, func(b *api.Body) { b.Kind = kind })
}

func placed(t api.Transform, b api.Body) api.Body {
	return with(b, func(b *api.Body) { b.Transform = t })
}

// moving is the body with these velocities.
func moving(x, y, angular int, b api.Body) api.Body {
	return with(b, func(b *api.Body) { b.Velocity, b.AngularVelocity = vec(x, y), angular })
}

func fixed(b api.Body) api.Body {
	return with(b, func(b *api.Body) { b.FixedRotation = true })
}

func asleep(b api.Body) api.Body {
	return with(b, func(b *api.Body) { b.Asleep, b.IdleSteps = true, 7 })
}

// copyOf is a copy of b that shares no memory with it. Lists without items become nil.
func copyOf(b api.Body) api.Body {
	var fixtures []api.Fixture
	for _, f := range b.Fixtures {
		f.Shape.Vertices = append([]api.Vec(nil), f.Shape.Vertices...)
		fixtures = append(fixtures, f)
	}
	b.Fixtures = fixtures
	return b
}

// plain is a value in which a nil list is an empty one.
func plain(value any) any {
	if b, ok := value.(api.Body); ok {
		return copyOf(b)
	}
	return value
}

// check compares call with the rows and, on the samples, with oracle, which is held against the rows as well.
func check[A, R any](t *testing.T, name string, call, oracle func(A) R, rows []row[A, R], samples []A) {
	t.Helper()
	for _, r := range rows {
		if got := call(r.args); !reflect.DeepEqual(plain(got), plain(r.want)) {
			t.Errorf("%s(%v) = %v, want %v", name, r.args, got, r.want)
		}
		if expected := oracle(r.args); !reflect.DeepEqual(plain(expected), plain(r.want)) {
			t.Errorf("%s(%v): the oracle says %v, the row %v", name, r.args, expected, r.want)
		}
	}
	for _, args := range samples {
		if got, want := call(args), oracle(args); !reflect.DeepEqual(plain(got), plain(want)) {
			t.Fatalf("%s(%v) = %v, want %v", name, args, got, want)
		}
	}
}

// number is a number of a T with its range.
type number[T any] struct {
	name      string
	set       func(*T, int)
	low, high int
}

// beyond are numbers out of the range.
func (n number[T]) beyond() []int {
	return []int{n.low - 1, n.high + 1, low, high, low / 2, high / 2}
}

func fixtureNumbers() []number[api.Fixture] {
	return []number[api.Fixture]{
		{"Density", func(f *api.Fixture, x int) { f.Density = x }, 0, 4 * one},
		{"Friction", func(f *api.Fixture, x int) { f.Friction = x }, 0, 2 * one},
		{"Restitution", func(f *api.Fixture, x int) { f.Restitution = x }, 0, one},
		{"Category", func(f *api.Fixture, x int) { f.Category = x }, 0, 65535},
		{"Mask", func(f *api.Fixture, x int) { f.Mask = x }, 0, 65535},
		{"Group", func(f *api.Fixture, x int) { f.Group = x }, -32, 32},
	}
}

// restingNumbers are those that any body can have.
func restingNumbers() []number[api.Body] {
	return []number[api.Body]{
		{"ID", func(b *api.Body, x int) { b.ID = x }, 1, 1 << 40},
		{"Position.X", func(b *api.Body, x int) { b.Transform.Position.X = x }, -world, world},
		{"Position.Y", func(b *api.Body, x int) { b.Transform.Position.Y = x }, -world, world},
		{"Angle", func(b *api.Body, x int) { b.Transform.Angle = x }, -pi, pi - 1},
		{"LinearDamping", func(b *api.Body, x int) { b.LinearDamping = x }, 0, one},
		{"AngularDamping", func(b *api.Body, x int) { b.AngularDamping = x }, 0, one},
		{"GravityScale", func(b *api.Body, x int) { b.GravityScale = x }, -4 * one, 4 * one},
		{"IdleSteps", func(b *api.Body, x int) { b.IdleSteps = x }, 0, 1 << 20},
	}
}

func velocityNumbers() []number[api.Body] {
	return []number[api.Body]{
		{"Velocity.X", func(b *api.Body, x int) { b.Velocity.X = x }, -256 * one, 256 * one},
		{"Velocity.Y", func(b *api.Body, x int) { b.Velocity.Y = x }, -256 * one, 256 * one},
		{"AngularVelocity", func(b *api.Body, x int) { b.AngularVelocity = x }, -64 * one, 64 * one},
	}
}

func forceNumbers() []number[api.Body] {
	return []number[api.Body]{
		{"Force.X", func(b *api.Body, x int) { b.Force.X = x }, 1 - 1<<29, 1<<29 - 1},
		{"Force.Y", func(b *api.Body, x int) { b.Force.Y = x }, 1 - 1<<29, 1<<29 - 1},
		{"Torque", func(b *api.Body, x int) { b.Torque = x }, 1 - 1<<29, 1<<29 - 1},
	}
}

// activeNumbers are those that are zero for static bodies.
func activeNumbers() []number[api.Body] {
	return append(velocityNumbers(), forceNumbers()...)
}

func bodyNumbers() []number[api.Body] {
	return append(restingNumbers(), activeNumbers()...)
}

// faultyShape is an invalid shape with its error.
type faultyShape struct {
	s    api.Shape
	want api.Errno
}

// faultyShapes break one rule each.
func faultyShapes() []faultyShape {
	return []faultyShape{
		{api.Shape{}, api.ErrKind},
		{api.Shape{Kind: 4, Radius: one, Vertices: path(0, 0)}, api.ErrKind},
		{api.Shape{Kind: api.Circle, Radius: one}, api.ErrCount},
		{api.Shape{Kind: api.Capsule, Radius: one, Vertices: path(0, 0)}, api.ErrCount},
		{poly(0, 0, one, 0), api.ErrCount},
		{circle(one/32-1, 0, 0), api.ErrRange},
		{circle(one, 16*one+1, 0), api.ErrRange},
		{capsule(8*one+1, 0, 0, one, 0), api.ErrRange},
		{api.Shape{Kind: api.Polygon, Radius: one, Vertices: path(0, 0, one, 0, 0, one)}, api.ErrRange},
		{capsule(one, 0, 0, one/16-1, 0), api.ErrShape},
		{poly(0, 0, 0, one, one, 0), api.ErrShape},
		{poly(0, 0, one, 0, 2*one, 0), api.ErrShape},
	}
}

// shapes are valid ones of every kind.
func shapes() []api.Shape {
	return []api.Shape{circle(one, 0, 0), circle(one/32, 16*one, -16*one), capsule(half, -one, 0, one, one), box(-one, -one, one, one), poly(0, 0, one, 0, 0, one)}
}

func checkFixtures(t *testing.T, rows []row[api.Fixture, api.Errno]) {
	t.Helper()
	check(t, "ValidateFixture", body.ValidateFixture, wantValidateFixture, rows, nil)
}

func checkValidate(t *testing.T, rows []row[api.Body, api.Errno]) {
	t.Helper()
	check(t, "Validate", body.Validate, wantValidate, rows, nil)
}

// P23.1: each number at both bounds, beside them and far beyond them, for every kind of shape.
func TestValidateFixtureKeepsToTheRanges(t *testing.T) {
	var rows []row[api.Fixture, api.Errno]
	for _, s := range shapes() {
		for _, n := range fixtureNumbers() {
			for _, f := range []api.Fixture{fixture(s, one), sensor(s), {Shape: s}} {
				for _, x := range []int{n.low, n.low + 1, n.high - 1, n.high} {
					n.set(&f, x)
					rows = append(rows, row[api.Fixture, api.Errno]{f, api.OK})
				}
				for _, x := range n.beyond() {
					n.set(&f, x)
					rows = append(rows, row[api.Fixture, api.Errno]{f, api.ErrRange})
				}
			}
		}
	}
	checkFixtures(t, rows)
}

// P23.1: all numbers at the same bound.
func TestValidateFixtureAtItsLimits(t *testing.T) {
	for _, s := range shapes() {
		checkFixtures(t, []row[api.Fixture, api.Errno]{
			{api.Fixture{Shape: s, Group: -32}, api.OK},
			{api.Fixture{Shape: s, Sensor: true}, api.OK},
			{api.Fixture{Shape: s, Density: api.MaxDensity, Friction: api.MaxFriction, Restitution: one, Category: 65535, Mask: 65535, Group: 32}, api.OK},
		})
	}
	checkFixtures(t, []row[api.Fixture, api.Errno]{{api.Fixture{}, api.ErrKind}})
}

// P23.1: the error of the shape comes first, whatever the numbers are.
func TestValidateFixtureExaminesTheShapeFirst(t *testing.T) {
	var rows []row[api.Fixture, api.Errno]
	for _, faulty := range faultyShapes() {
		rows = append(rows, row[api.Fixture, api.Errno]{fixture(faulty.s, one), faulty.want}, row[api.Fixture, api.Errno]{sensor(faulty.s), faulty.want})
		for _, n := range fixtureNumbers() {
			for _, x := range n.beyond() {
				f := fixture(faulty.s, one)
				n.set(&f, x)
				rows = append(rows, row[api.Fixture, api.Errno]{f, faulty.want})
			}
		}
	}
	checkFixtures(t, rows)
}

// P23.1: several numbers out of range at once, in every combination of them.
func TestValidateFixtureWithSeveralFaults(t *testing.T) {
	var rows []row[api.Fixture, api.Errno]
	numbers := fixtureNumbers()
	for set := range 1 << len(numbers) {
		below, above, want := fixture(circle(one, 0, 0), one), fixture(box(0, 0, one, one), 0), api.OK
		for i, n := range numbers {
			if set>>i%2 == 1 {
				n.set(&below, n.low-1)
				n.set(&above, n.high+1)
				want = api.ErrRange
			}
		}
		rows = append(rows, row[api.Fixture, api.Errno]{below, want}, row[api.Fixture, api.Errno]{above, want})
	}
	checkFixtures(t, rows)
}

// P23.2
func TestValidate(t *testing.T) {
	var rows []row[api.Body, api.Errno]
	for _, kind := range kinds() {
		for _, b := range []api.Body{disc(), block(), pair(), dynamic()} {
			b = ofKind(kind, b)
			plate := with(b, func(b *api.Body) { b.FixedRotation, b.NoSleep = true, true })
			rows = append(rows, row[api.Body, api.Errno]{b, api.OK}, row[api.Body, api.Errno]{plate, api.OK})
		}
		rows = append(rows, row[api.Body, api.Errno]{api.Body{ID: 1, Kind: kind}, api.OK}, row[api.Body, api.Errno]{api.Body{Kind: kind}, api.ErrRange})
	}
	checkValidate(t, rows)
}

// P23.2
func TestValidateKnowsTheKinds(t *testing.T) {
	rows := []row[api.Body, api.Errno]{{api.Body{}, api.ErrKind}}
	for _, kind := range []api.BodyKind{0, 4, -1, -3, 5, 1<<32 + 3, low, high} {
		rows = append(rows, row[api.Body, api.Errno]{ofKind(kind, disc()), api.ErrKind}, row[api.Body, api.Errno]{api.Body{ID: 1, Kind: kind}, api.ErrKind})
	}
	checkValidate(t, rows)
}

// P23.2: each number at both bounds, beside them and far beyond them.
func TestValidateKeepsToTheRanges(t *testing.T) {
	var rows []row[api.Body, api.Errno]
	for _, kind := range kinds() {
		numbers := bodyNumbers()
		if kind == api.Static {
			numbers = restingNumbers()
		}
		for _, n := range numbers {
			b := ofKind(kind, disc())
			for _, x := range []int{n.low, n.low + 1, n.high - 1, n.high} {
				n.set(&b, x)
				rows = append(rows, row[api.Body, api.Errno]{b, api.OK})
			}
		}
		for _, n := range bodyNumbers() {
			b := ofKind(kind, disc())
			for _, x := range n.beyond() {
				n.set(&b, x)
				rows = append(rows, row[api.Body, api.Errno]{b, api.ErrRange})
			}
		}
	}
	checkValidate(t, rows)
}

// P23.2: all numbers at the same bound.
func TestValidateAtItsLimits(t *testing.T) {
	least, greatest := disc(), disc()
	for _, n := range bodyNumbers() {
		n.set(&least, n.low)
		n.set(&greatest, n.high)
	}
	checkValidate(t, []row[api.Body, api.Errno]{
		{least, api.OK}, {greatest, api.OK},
		{ofKind(api.Kinematic, least), api.OK}, {ofKind(api.Kinematic, greatest), api.OK},
		{ofKind(api.Static, least), api.ErrBody}, {ofKind(api.Static, greatest), api.ErrBody},
	})
}

// P23.2
func TestValidateCountsTheFixtures(t *testing.T) {
	var rows []row[api.Body, api.Errno]
	for _, kind := range kinds() {
		for count := range 8 {
			want := api.OK
			if count > 4 {
				want = api.ErrCount
			}
			b := ofKind(kind, dynamic(slices.Repeat(disc().Fixtures, count)...))
			rows = append(rows, row[api.Body, api.Errno]{b, want})
		}
	}
	rows = append(rows, row[api.Body, api.Errno]{dynamic(slices.Repeat(disc().Fixtures, 5000)...), api.ErrCount})
	rows = append(rows, row[api.Body, api.Errno]{dynamic(make([]api.Fixture, 5)...), api.ErrCount})
	checkValidate(t, rows)
}

// faultyFixtures break one rule each.
func faultyFixtures() []api.Fixture {
	list := []api.Fixture{{}}
	for _, faulty := range faultyShapes() {
		list = append(list, fixture(faulty.s, one), sensor(faulty.s))
	}
	for _, n := range fixtureNumbers() {
		below, above := fixture(circle(one, 0, 0), one), sensor(circle(one, 0, 0))
		n.set(&below, n.low-1)
		n.set(&above, n.high+1)
		list = append(list, below, above)
	}
	return list
}

// P23.2: an invalid fixture at every place, among valid ones and another invalid one.
func TestValidateExaminesTheFixtures(t *testing.T) {
	var rows []row[api.Body, api.Errno]
	for _, faulty := range faultyFixtures() {
		for count := 1; count <= 4; count++ {
			for i := range count {
				b := dynamic(slices.Repeat(block().Fixtures, count)...)
				b.Fixtures[i] = faulty
				for _, kind := range kinds() {
					rows = append(rows, row[api.Body, api.Errno]{ofKind(kind, b), api.ErrFixture})
				}
				b.Fixtures[count/2] = api.Fixture{}
				rows = append(rows, row[api.Body, api.Errno]{copyOf(b), api.ErrFixture})
			}
		}
	}
	checkValidate(t, rows)
}

// P23.2: a static body neither moves nor is it pulled.
func TestValidateOfStaticBodies(t *testing.T) {
	var rows []row[api.Body, api.Errno]
	for _, n := range activeNumbers() {
		for _, x := range []int{1, -1, one, n.low, n.high} {
			b := ofKind(api.Static, block())
			n.set(&b, x)
			rows = append(rows, row[api.Body, api.Errno]{b, api.ErrBody})
			rows = append(rows, row[api.Body, api.Errno]{ofKind(api.Kinematic, b), api.OK}, row[api.Body, api.Errno]{ofKind(api.Dynamic, b), api.OK})
		}
	}
	checkValidate(t, rows)
}

// P23.2: only a dynamic body is asleep or a bullet, and a body that is asleep does not move.
func TestValidateOfSleepersAndBullets(t *testing.T) {
	sleeper := with(disc(), func(b *api.Body) { b.Asleep = true })
	bullet := with(disc(), func(b *api.Body) { b.Bullet = true })
	both := with(sleeper, func(b *api.Body) { b.Bullet = true })
	pulled := with(sleeper, func(b *api.Body) { b.Force, b.Torque = vec(one, -one), 5 })
	restless := with(sleeper, func(b *api.Body) { b.NoSleep = true })
	var rows []row[api.Body, api.Errno]
	for _, b := range []api.Body{sleeper, bullet, both, pulled, restless} {
		rows = append(rows, row[api.Body, api.Errno]{b, api.OK})
		rows = append(rows, row[api.Body, api.Errno]{ofKind(api.Static, b), api.ErrBody}, row[api.Body, api.Errno]{ofKind(api.Kinematic, b), api.ErrBody})
		for _, n := range velocityNumbers() {
			for _, x := range []int{1, -1, one, n.low, n.high} {
				want := api.OK
				if b.Asleep {
					want = api.ErrBody
				}
				moved := with(b, func(b *api.Body) { n.set(b, x) })
				rows = append(rows, row[api.Body, api.Errno]{moved, want})
			}
		}
	}
	checkValidate(t, rows)
}

// P23.2: all combinations of what a body of each kind may and may not have.
func TestValidateOfAllCombinations(t *testing.T) {
	var all []api.Body
	numbers := activeNumbers()
	for _, kind := range kinds() {
		for set := range 1 << (len(numbers) + 4) {
			b := ofKind(kind, disc())
			for i, n := range numbers {
				n.set(&b, set>>i%2)
			}
			flags := set >> len(numbers)
			b.Asleep, b.Bullet, b.NoSleep, b.FixedRotation = flags&1 > 0, flags&2 > 0, flags&4 > 0, flags&8 > 0
			all = append(all, b)
		}
	}
	check(t, "Validate", body.Validate, wantValidate, nil, all)
}

// fault is a change that makes a body break one rule.
type fault struct {
	want   api.Errno
	change func(*api.Body)
}

// faults are changes for each error, in the order of the promise. They don't undo each other if the later ones come first.
func faults() [][]fault {
	of := func(want api.Errno, changes ...func(*api.Body)) []fault {
		var list []fault
		for _, change := range changes {
			list = append(list, fault{want, change})
		}
		return list
	}
	return [][]fault{
		of(api.ErrKind,
			func(b *api.Body) { b.Kind = 0 },
			func(b *api.Body) { b.Kind = 4 }),
		of(api.ErrRange,
			func(b *api.Body) { b.ID = 0 },
			func(b *api.Body) { b.Transform.Angle = pi },
			func(b *api.Body) { b.Velocity.Y = fast + 1 },
			func(b *api.Body) { b.Torque = -most - 1 },
			func(b *api.Body) { b.IdleSteps = -1 }),
		of(api.ErrCount,
			func(b *api.Body) { b.Fixtures = append(b.Fixtures, slices.Repeat(b.Fixtures[:1], 4)...) },
			func(b *api.Body) { b.Fixtures = append(slices.Repeat(b.Fixtures[:1], 5), b.Fixtures...) }),
		of(api.ErrFixture,
			func(b *api.Body) { b.Fixtures[0].Shape.Radius = 0 },
			func(b *api.Body) { b.Fixtures[0].Shape = api.Shape{} },
			func(b *api.Body) { b.Fixtures[0].Group = 33 },
			func(b *api.Body) { b.Fixtures = append(b.Fixtures, api.Fixture{}) }),
		of(api.ErrBody,
			func(b *api.Body) { b.Kind, b.Velocity = api.Static, vec(0, 1) },
			func(b *api.Body) { b.Kind, b.Force = api.Static, vec(1, 0) },
			func(b *api.Body) { b.Kind, b.Bullet = api.Kinematic, true },
			func(b *api.Body) { b.Kind, b.Asleep = api.Static, true },
			func(b *api.Body) { b.Asleep, b.AngularVelocity = true, -1 }),
	}
}

// P23.2: of several violations the first one in the order of the promise counts.
func TestValidateTellsTheFirstFault(t *testing.T) {
	all := faults()
	bodies := []row[api.Body, api.Errno]{{disc(), api.OK}}
	for _, group := range slices.Backward(all) {
		for _, b := range slices.Clone(bodies) {
			for _, f := range group {
				bodies = append(bodies, row[api.Body, api.Errno]{with(b.args, f.change), f.want})
			}
		}
	}
	if len(bodies) != 3*6*3*5*6 {
		t.Errorf("there are %d bodies", len(bodies))
	}
	checkValidate(t, bodies)
}

// P23.1, P23.2: random fixtures and bodies, valid and not.
func TestValidateOfRandomBodies(t *testing.T) {
	counts := map[api.Errno]int{}
	bodies := anyBodies(1)
	var fixtures []api.Fixture
	for _, b := range bodies {
		fixtures = append(fixtures, b.Fixtures...)
		counts[wantValidate(b)]++
	}
	check(t, "ValidateFixture", body.ValidateFixture, wantValidateFixture, nil, fixtures)
	check(t, "Validate", body.Validate, wantValidate, nil, bodies)
	for _, err := range []api.Errno{api.OK, api.ErrKind, api.ErrRange, api.ErrCount, api.ErrFixture, api.ErrBody} {
		if counts[err] < 100 {
			t.Errorf("only %d bodies have the error %d", counts[err], err)
		}
	}
}
