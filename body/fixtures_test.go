package body_test

import (
	"reflect"
	"slices"
	"testing"

	"carom/aabb"
	"carom/api"
	"carom/body"
	"carom/shape"
)

// bounded are the two answers of Bounds.
type bounded struct {
	box api.AABB
	ok  bool
}

func boundsOf(b api.Body) bounded {
	box, ok := body.Bounds(b)
	return bounded{box, ok}
}

func around(minX, minY, maxX, maxY int) bounded {
	return bounded{api.AABB{Min: vec(minX, minY), Max: vec(maxX, maxY)}, true}
}

func fixtureAt(p pointed) int {
	return body.FixtureAt(p.b, p.point)
}

// barbell is two discs at (-2, 0) and (2, 0), a sensor in the shape of a bar from one to the other, and a tile that covers the origin.
func barbell() api.Body {
	return dynamic(
		fixture(circle(one, -2*one, 0), one),
		fixture(circle(one, 2*one, 0), 0),
		sensor(capsule(half, -2*one, 0, 2*one, 0)),
		fixture(box(-one, -one, one, 3*one), one),
	)
}

// P23.5: the box around all fixtures, sensors and those without a mass among them.
func TestBounds(t *testing.T) {
	rows := []row[api.Body, bounded]{
		{api.Body{}, bounded{}},
		{placed(at(5*one, 5*one, 0), dynamic()), bounded{}},
		{dynamic([]api.Fixture{}...), bounded{}},
		{disc(), around(-one, -one, one, one)},
		// The origin is in none of the boxes.
		{placed(at(10*one, 5*one, 0), disc()), around(9*one, 4*one, 11*one, 6*one)},
		{placed(at(-10*one, -5*one, 0), disc()), around(-11*one, -6*one, -9*one, -4*one)},
		{barbell(), around(-3*one, -one, 3*one, 3*one)},
		{placed(at(10*one, 5*one, 0), barbell()), around(7*one, 4*one, 13*one, 8*one)},
		{placed(at(10*one, 5*one, quarter), barbell()), around(7*one, 2*one, 11*one, 8*one)},
		{placed(at(10*one, 5*one, -quarter), barbell()), around(9*one, 2*one, 13*one, 8*one)},
		{placed(at(10*one, 5*one, -pi), barbell()), around(7*one, 2*one, 13*one, 6*one)},
		{dynamic(sensor(circle(one, 5*one, 5*one))), around(4*one, 4*one, 6*one, 6*one)},
		{dynamic(sensor(circle(one, 5*one, 5*one)), fixture(circle(half, 9*one, 9*one), 0)), around(4*one, 4*one, 9*one+half, 9*one+half)},
		// Far away the boxes are saturated.
		{placed(at(world, -world, 0), disc()), around(world-one, -world-one, world+one, one-world)},
		{placed(at(high, low, 0), disc()), around(most-one, -most, most, one-most)},
		// An invalid shape has the zero box.
		{dynamic(api.Fixture{}), around(0, 0, 0, 0)},
		{placed(at(10*one, 5*one, 0), dynamic(api.Fixture{}, disc().Fixtures[0])), around(0, 0, 11*one, 6*one)},
		{placed(at(10*one, 5*one, 0), dynamic(disc().Fixtures[0], api.Fixture{})), around(0, 0, 11*one, 6*one)},
		// More fixtures than a valid body has.
		{dynamic(slices.Concat(barbell().Fixtures, barbell().Fixtures, []api.Fixture{fixture(circle(one, 9*one, 0), one)})...), around(-3*one, -one, 10*one, 3*one)},
	}
	for _, kind := range append(kinds(), 0) {
		rows = append(rows, row[api.Body, bounded]{ofKind(kind, asleep(moving(one, one, one, barbell()))), around(-3*one, -one, 3*one, 3*one)})
	}
	check(t, "Bounds", boundsOf, wantBounds, rows, anyBodies(11))
}

// P23.5: each fixture alone decides in each place.
func TestBoundsOfEachFixture(t *testing.T) {
	outlier := fixture(circle(one, 9*one, -9*one), one)
	for count := 1; count <= 4; count++ {
		for i := range count {
			b := dynamic(slices.Repeat(disc().Fixtures, count)...)
			b.Fixtures[i] = outlier
			want := around(-one, -10*one, 10*one, one)
			if count == 1 {
				want = around(8*one, -10*one, 10*one, -8*one)
			}
			if got := boundsOf(b); got != want {
				t.Errorf("Bounds(%v) = %v, want %v", b, got, want)
			}
		}
	}
}

// P23.5: the first fixture that contains the point.
func TestFixtureAt(t *testing.T) {
	turned := placed(at(10*one, 5*one, quarter), barbell())
	rows := []row[pointed, int]{
		{pointed{api.Body{}, vec(0, 0)}, -1},
		{pointed{dynamic(), vec(0, 0)}, -1},
		// Inside, on the border and outside of one fixture.
		{pointed{disc(), vec(0, 0)}, 0},
		{pointed{disc(), vec(one, 0)}, 0},
		{pointed{disc(), vec(one+1, 0)}, -1},
		{pointed{disc(), vec(0, -one)}, 0},
		{pointed{disc(), vec(0, -one-1)}, -1},
		{pointed{block(), vec(one, one)}, 0},
		{pointed{block(), vec(one+1, one)}, -1},
		{pointed{block(), vec(0, -one-1)}, -1},
		// Inside of several fixtures.
		{pointed{barbell(), vec(-2*one, 0)}, 0},
		{pointed{barbell(), vec(-one, 0)}, 0},
		{pointed{barbell(), vec(1-one, 0)}, 2},
		{pointed{barbell(), vec(2*one, 0)}, 1},
		{pointed{barbell(), vec(one, 0)}, 1},
		{pointed{barbell(), vec(0, 0)}, 2},
		{pointed{barbell(), vec(0, half)}, 2},
		{pointed{barbell(), vec(0, half+1)}, 3},
		{pointed{barbell(), vec(one, 3*one)}, 3},
		{pointed{barbell(), vec(one, 3*one+1)}, -1},
		{pointed{barbell(), vec(3*one, 0)}, 1},
		{pointed{barbell(), vec(3*one+1, 0)}, -1},
		{pointed{barbell(), vec(-3*one-1, 0)}, -1},
		{pointed{barbell(), vec(2*one, 3*one)}, -1},
		{pointed{barbell(), vec(low, high)}, -1},
		// The barbell stands upright at (10, 5), and its tile reaches from x = 7 to x = 11.
		{pointed{turned, vec(10*one, 3*one)}, 0},
		{pointed{turned, vec(10*one, 2*one)}, 0},
		{pointed{turned, vec(10*one, 2*one-1)}, -1},
		{pointed{turned, vec(10*one, 7*one)}, 1},
		{pointed{turned, vec(10*one, 5*one)}, 2},
		{pointed{turned, vec(7*one, 4*one)}, 3},
		{pointed{turned, vec(7*one-1, 4*one)}, -1},
		{pointed{turned, vec(0, 0)}, -1},
		// An invalid fixture contains nothing, not even the corner of its zero box.
		{pointed{dynamic(api.Fixture{}), vec(0, 0)}, -1},
		{pointed{dynamic(api.Fixture{}, disc().Fixtures[0]), vec(0, 0)}, 1},
		{pointed{dynamic(fixture(circle(9*one, 0, 0), one), sensor(circle(one, 0, 0))), vec(0, 0)}, 1},
		{pointed{dynamic(slices.Concat(barbell().Fixtures, barbell().Fixtures, []api.Fixture{fixture(circle(one, 9*one, 0), one)})...), vec(9*one, 0)}, 8},
	}
	for _, kind := range append(kinds(), 0) {
		rows = append(rows, row[pointed, int]{pointed{ofKind(kind, asleep(moving(one, one, one, barbell()))), vec(0, 2*one)}, 3})
	}
	check(t, "FixtureAt", fixtureAt, wantFixtureAt, rows, anyPointed(12))
}

// P23.5: a point in a fixture of a valid body lies in the body's bounds, but for the rounding that package shape allows.
func TestFixturesLieInTheBounds(t *testing.T) {
	d := newDice(13)
	found := 0
	for range 20000 {
		b := d.validBody()
		point := d.pointOn(b)
		bounds, ok := body.Bounds(b)
		if ok != (len(b.Fixtures) > 0) {
			t.Fatalf("Bounds(%v) = %v, %v", b, bounds, ok)
		}
		i := body.FixtureAt(b, point)
		if i < 0 {
			continue
		}
		found++
		if !shape.ContainsPoint(b.Fixtures[i].Shape, b.Transform, point) || !aabb.ContainsPoint(aabb.Expand(bounds, 2), point) {
			t.Fatalf("FixtureAt(%v, %v) = %d, and the bounds are %v", b, point, i, bounds)
		}
	}
	if found < 2000 {
		t.Errorf("only %d points were in a fixture", found)
	}
}

// full is a body with different numbers, all of them not zero, in all fields.
func full() api.Body {
	b := api.Body{
		ID: 1, Kind: api.Dynamic, Transform: at(2, 3, 4), Velocity: vec(5, 6), AngularVelocity: 7, Force: vec(8, 9), Torque: 10,
		LinearDamping: 11, AngularDamping: 12, GravityScale: 13, Bullet: true, FixedRotation: true, NoSleep: true, Asleep: true, IdleSteps: 14,
	}
	for i, s := range []api.Shape{circle(one, 15, 16), capsule(half, 17, 18, one, 19), box(-one, -one, one, one)} {
		b.Fixtures = append(b.Fixtures, api.Fixture{Shape: s, Density: 20 + i, Friction: 30 + i, Restitution: 40 + i, Sensor: true, Category: 50 + i, Mask: 60 + i, Group: 70 + i})
	}
	return b
}

// leaves are all numbers and bools within a value, those of the items of its lists included.
func leaves(v reflect.Value) []reflect.Value {
	var list []reflect.Value
	switch v.Kind() {
	case reflect.Struct:
		for i := range v.NumField() {
			list = append(list, leaves(v.Field(i))...)
		}
	case reflect.Slice:
		for i := range v.Len() {
			list = append(list, leaves(v.Index(i))...)
		}
	default:
		list = append(list, v)
	}
	return list
}

func leavesOf(b *api.Body) []reflect.Value {
	return leaves(reflect.ValueOf(b).Elem())
}

// change gives a number or a bool another value.
func change(leaf reflect.Value, by int) {
	if leaf.Kind() == reflect.Bool {
		leaf.SetBool(!leaf.Bool())
		return
	}
	leaf.SetInt(leaf.Int() + int64(by))
}

func checkEqual(t *testing.T, a, b api.Body, want bool) {
	t.Helper()
	if body.Equal(a, b) != want || body.Equal(b, a) != want {
		t.Errorf("Equal(%v, %v) = %v", a, b, !want)
	}
}

// P23.5: bodies that differ in one number or one bool alone, wherever it is.
func TestEqualExaminesEachField(t *testing.T) {
	for _, b := range []api.Body{full(), {}, {Fixtures: []api.Fixture{{}}}, disc(), barbell()} {
		same := copyOf(b)
		checkEqual(t, b, same, true)
		for i := range leavesOf(&same) {
			for _, by := range []int{1, -1, 1 << 32, low} {
				other := copyOf(b)
				change(leavesOf(&other)[i], by)
				checkEqual(t, b, other, false)
			}
		}
	}
	whole := full()
	if count := len(leavesOf(&whole)); count != 2+3+3+3+3+4+1+3*9+2*7 {
		t.Errorf("a full body has %d numbers and bools", count)
	}
}

// P23.5: lists of different lengths and orders, nil ones and empty ones.
func TestEqualExaminesTheLists(t *testing.T) {
	b := full()
	first, second := b.Fixtures[0], b.Fixtures[1]
	for _, r := range []struct {
		a, b []api.Fixture
		want bool
	}{
		{nil, nil, true},
		{nil, []api.Fixture{}, true},
		{[]api.Fixture{}, b.Fixtures[:0], true},
		{nil, b.Fixtures[:1], false},
		{nil, []api.Fixture{{}}, false},
		{b.Fixtures, b.Fixtures, true},
		{b.Fixtures, b.Fixtures[:2], false},
		{b.Fixtures[:2], b.Fixtures[:1], false},
		{[]api.Fixture{first, second}, []api.Fixture{second, first}, false},
		{[]api.Fixture{first, first}, []api.Fixture{first}, false},
		{[]api.Fixture{{}}, []api.Fixture{{Shape: api.Shape{Vertices: []api.Vec{}}}}, true},
		{[]api.Fixture{{}}, []api.Fixture{{Shape: api.Shape{Vertices: []api.Vec{{}}}}}, false},
		{[]api.Fixture{{}}, []api.Fixture{{}, {}}, false},
	} {
		some, other := full(), full()
		some.Fixtures, other.Fixtures = r.a, r.b
		checkEqual(t, some, other, r.want)
	}
	for i := range b.Fixtures {
		shorter, turned, longer := copyOf(b), copyOf(b), copyOf(b)
		s, v, l := &shorter.Fixtures[i].Shape, &turned.Fixtures[i].Shape, &longer.Fixtures[i].Shape
		s.Vertices = s.Vertices[:len(s.Vertices)-1]
		v.Vertices = slices.Concat(v.Vertices[1:], v.Vertices[:1])
		l.Vertices = append(l.Vertices, api.Vec{})
		checkEqual(t, b, shorter, false)
		checkEqual(t, b, turned, len(v.Vertices) == 1)
		checkEqual(t, b, longer, false)
	}
}

// P23.5: random bodies and their copies, changed in one place.
func TestEqualOfRandomBodies(t *testing.T) {
	d := newDice(14)
	for _, b := range anyBodies(14) {
		other := copyOf(b)
		checkEqual(t, b, other, true)
		all := leavesOf(&other)
		change(all[d.source.Intn(len(all))], d.pick(1, -1, one, low))
		checkEqual(t, b, other, false)
	}
}

// P23.5: a clone has all that the body has.
func TestClone(t *testing.T) {
	var rows []row[api.Body, api.Body]
	for _, b := range []api.Body{{}, full(), barbell(), crowded(), {Fixtures: []api.Fixture{}}, {Fixtures: []api.Fixture{{}}}, moving(low, high, low, disc())} {
		rows = append(rows, row[api.Body, api.Body]{b, copyOf(b)})
		checkEqual(t, b, body.Clone(b), true)
	}
	check(t, "Clone", body.Clone, copyOf, rows, anyBodies(15))
}

// P23.5: what is done to a clone is not done to the body, nor the other way around.
func TestClonesAreDeep(t *testing.T) {
	for _, b := range []api.Body{full(), barbell(), crowded()} {
		before, clone := copyOf(b), body.Clone(b)
		for i := range leavesOf(&clone) {
			change(leavesOf(&clone)[i], 1)
			checkEqual(t, b, before, true)
			checkEqual(t, b, clone, false)
		}
		clone.Fixtures[0].Shape.Vertices = append(clone.Fixtures[0].Shape.Vertices, vec(77, 77))
		clone.Fixtures = append(clone.Fixtures[:1], api.Fixture{Density: 77})
		checkEqual(t, b, before, true)
		clone = body.Clone(b)
		for i := range leavesOf(&b) {
			change(leavesOf(&b)[i], 1)
		}
		checkEqual(t, clone, before, true)
	}
}
