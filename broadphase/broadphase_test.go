package broadphase_test

import (
	"math"
	"slices"
	"testing"

	"carom/api"
	"carom/broadphase"
)

const (
	one    = api.One
	most   = api.MaxValue
	margin = api.ContactMargin
	low    = math.MinInt
	high   = math.MaxInt
)

func box(minX, minY, maxX, maxY int) api.AABB {
	return api.AABB{Min: api.Vec{X: minX, Y: minY}, Max: api.Vec{X: maxX, Y: maxY}}
}

func circle(center api.Vec, radius int) api.Shape {
	return api.Shape{Kind: api.Circle, Radius: radius, Vertices: []api.Vec{center}}
}

func capsule(radius int, from, to api.Vec) api.Shape {
	return api.Shape{Kind: api.Capsule, Radius: radius, Vertices: []api.Vec{from, to}}
}

func polygon(vertices ...api.Vec) api.Shape {
	return api.Shape{Kind: api.Polygon, Vertices: vertices}
}

// fixture has a filter by which it collides with all others of this kind.
func fixture(s api.Shape) api.Fixture {
	return api.Fixture{Shape: s, Category: 1, Mask: 1}
}

// filter is a fixture with this filter.
func filter(category, mask, group int) api.Fixture {
	return api.Fixture{Shape: circle(api.Vec{}, one), Category: category, Mask: mask, Group: group}
}

// body is a dynamic body at a place.
func body(id, x, y int, fixtures ...api.Fixture) api.Body {
	return api.Body{ID: id, Kind: api.Dynamic, Transform: api.Transform{Position: api.Vec{X: x, Y: y}}, Fixtures: fixtures}
}

// ball is a dynamic body that is a circle with radius One.
func ball(id, x, y int) api.Body {
	return body(id, x, y, fixture(circle(api.Vec{}, one)))
}

func ofKind(kind api.BodyKind, b api.Body) api.Body {
	b.Kind = kind
	return b
}

func turned(angle int, b api.Body) api.Body {
	b.Transform.Angle = angle
	return b
}

func joint(a, b int) api.Joint {
	return api.Joint{ID: 9, Kind: api.RevoluteJoint, BodyA: a, BodyB: b}
}

// open is a joint whose bodies may collide.
func open(a, b int) api.Joint {
	j := joint(a, b)
	j.CollideConnected = true
	return j
}

func key(bodyA, fixtureA, bodyB, fixtureB int) api.PairKey {
	return api.PairKey{BodyA: bodyA, FixtureA: fixtureA, BodyB: bodyB, FixtureB: fixtureB}
}

// checkPairs holds FindPairs against the plain search and against what it promises of its list.
func checkPairs(t *testing.T, bodies []api.Body, joints []api.Joint) []api.PairKey {
	t.Helper()
	got := broadphase.FindPairs(bodies, joints)
	if want := pairsOf(bodies, joints); !slices.Equal(got, want) {
		t.Fatalf("FindPairs(%v, %v) = %v, want %v", bodies, joints, got, want)
	}
	for i, k := range got {
		if k.BodyA >= k.BodyB || i > 0 && !lessOf(got[i-1], k) {
			t.Fatalf("FindPairs(%v, %v) = %v", bodies, joints, got)
		}
	}
	return got
}

// P22.1, P22.4: both orders of two fixtures.
func TestShouldCollide(t *testing.T) {
	for _, r := range []struct {
		a, b api.Fixture
		want bool
	}{
		// Without a common group the categories and the masks decide.
		{filter(1, 1, 0), filter(1, 1, 0), true},
		{filter(1, 2, 0), filter(2, 1, 0), true},
		{filter(1, 2, 0), filter(1, 2, 0), false},
		{filter(3, 12, 0), filter(8, 2, 0), true},
		{filter(6, 5, 0), filter(3, 3, 0), true},
		{filter(65535, 65535, 0), filter(65535, 65535, 0), true},
		{filter(32768, 32768, 0), filter(32768, 32768, 0), true},
		{filter(32768, 65535, 0), filter(65535, 32768, 0), true},
		{filter(0, 0, 0), filter(0, 0, 0), false},
		// They share a bit on one side only, or a bit of both categories or of both masks.
		{filter(1, 1, 0), filter(1, 2, 0), false},
		{filter(1, 1, 0), filter(2, 1, 0), false},
		{filter(1, 65535, 0), filter(65535, 65534, 0), false},
		{filter(65535, 1, 0), filter(65534, 65535, 0), false},
		{filter(0, 65535, 0), filter(65535, 65535, 0), false},
		{filter(65535, 0, 0), filter(65535, 65535, 0), false},
		{filter(32768, 1, 0), filter(1, 32767, 0), false},
		{filter(3, 4, 0), filter(3, 4, 0), false},
		{filter(5, 2, 0), filter(2, 2, 0), false},
		// A common group decides, whatever the categories and the masks are.
		{filter(0, 0, 2), filter(0, 0, 2), true},
		{filter(1, 2, 1), filter(1, 2, 1), true},
		{filter(1, 1, 32), filter(1, 2, 32), true},
		{filter(1, 1, -2), filter(1, 1, -2), false},
		{filter(65535, 65535, -1), filter(65535, 65535, -1), false},
		{filter(1, 2, -32), filter(2, 1, -32), false},
		{filter(0, 0, -1), filter(0, 0, -1), false},
		// Different groups decide nothing.
		{filter(1, 1, 1), filter(1, 1, 2), true},
		{filter(1, 1, -1), filter(1, 1, 1), true},
		{filter(1, 1, -1), filter(1, 1, -2), true},
		{filter(1, 1, -1), filter(1, 1, 0), true},
		{filter(1, 1, 1), filter(1, 1, 0), true},
		{filter(1, 2, 1), filter(1, 2, 2), false},
		{filter(1, 2, 1), filter(1, 2, -1), false},
		{filter(1, 2, -1), filter(1, 2, -2), false},
		{filter(1, 1, 1), filter(1, 2, 0), false},
		{filter(0, 0, 32), filter(0, 0, 0), false},
		// Numbers that no valid fixture has.
		{filter(0, 0, 33), filter(0, 0, 33), true},
		{filter(0, 0, high), filter(0, 0, high), true},
		{filter(1, 1, -33), filter(1, 1, -33), false},
		{filter(1, 1, low), filter(1, 1, low), false},
		{filter(1, 1, low), filter(1, 1, high), true},
		{filter(-1, -1, 0), filter(1, 1, 0), true},
		{filter(-2, -1, 0), filter(1, 1, 0), false},
		{filter(65536, 65536, 0), filter(65536, 65536, 0), true},
		{filter(low, low, 0), filter(low, low, 0), true},
		{filter(low, -1, 0), filter(high, -1, 0), true},
		{filter(low, low, 0), filter(high, high, 0), false},
	} {
		for _, two := range [][2]api.Fixture{{r.a, r.b}, {r.b, r.a}} {
			if got := broadphase.ShouldCollide(two[0], two[1]); got != r.want {
				t.Errorf("ShouldCollide(%v, %v) = %v", two[0], two[1], got)
			}
			// Nothing but the filters matters.
			other := api.Fixture{Sensor: true, Density: low, Friction: -1, Restitution: high, Category: two[1].Category, Mask: two[1].Mask, Group: two[1].Group}
			if got := broadphase.ShouldCollide(two[0], other); got != r.want {
				t.Errorf("ShouldCollide(%v, %v) = %v", two[0], other, got)
			}
		}
	}
}

// stick is a capsule from the body's origin to (2, 0), and tile a rectangle from there to (2, 1).
func stick() api.Fixture {
	return fixture(capsule(one/2, api.Vec{}, api.Vec{X: 2 * one}))
}

func tile() api.Fixture {
	return fixture(polygon(api.Vec{}, api.Vec{X: 2 * one}, api.Vec{X: 2 * one, Y: one}, api.Vec{Y: one}))
}

// P22.1: the proxy box of a fixture at a moved and turned transform.
func TestProxyBoxes(t *testing.T) {
	disc := fixture(circle(api.Vec{X: 2 * one, Y: one}, 3*one))
	diamond := fixture(polygon(api.Vec{X: one}, api.Vec{Y: one}, api.Vec{X: -one}, api.Vec{Y: -one}))
	for _, r := range []struct {
		body api.Body
		want api.AABB
	}{
		{body(1, 0, 0, disc), box(-one-1024, -2*one-1024, 5*one+1024, 4*one+1024)},
		{body(1, 7*one, -one, disc), box(6*one-1024, -3*one-1024, 12*one+1024, 3*one+1024)},
		{turned(api.HalfPi, body(1, 0, 0, disc)), box(-4*one-1024, -one-1024, 2*one+1024, 5*one+1024)},
		{turned(-api.Pi, body(1, 5, 6, disc)), box(-5*one-1019, -4*one-1018, one+1029, 2*one+1030)},
		{body(1, 0, 0, stick()), box(-one/2-1024, -one/2-1024, 5*one/2+1024, one/2+1024)},
		{turned(api.HalfPi, body(1, 10*one, -3*one, stick())), box(19*one/2-1024, -7*one/2-1024, 21*one/2+1024, -one/2+1024)},
		{turned(-api.HalfPi, body(1, 10*one, -3*one, stick())), box(19*one/2-1024, -11*one/2-1024, 21*one/2+1024, -5*one/2+1024)},
		{body(1, 0, 0, tile()), box(-1024, -1024, 2*one+1024, one+1024)},
		{body(1, -3, 4, tile()), box(-1027, -1020, 2*one+1021, one+1028)},
		{turned(api.HalfPi, body(1, 0, 0, tile())), box(-one-1024, -1024, 1024, 2*one+1024)},
		{turned(-api.Pi, body(1, 4*one, 0, tile())), box(2*one-1024, -one-1024, 4*one+1024, 1024)},
		{turned(-api.HalfPi, body(1, 0, 5*one, tile())), box(-1024, 3*one-1024, one+1024, 5*one+1024)},
		{body(1, 0, 0, diamond), box(-one-1024, -one-1024, one+1024, one+1024)},
		// At the limits of the world, and saturated beyond them.
		{body(1, api.WorldLimit, -api.WorldLimit, tile()), box(api.WorldLimit-1024, -api.WorldLimit-1024, api.WorldLimit+2*one+1024, -api.WorldLimit+one+1024)},
		{body(1, most, -most, fixture(circle(api.Vec{}, one))), box(most-one-1024, -most, most, -most+one+1024)},
		{body(1, low, high, fixture(circle(api.Vec{}, one))), box(-most, most-one-1024, -most+one+1024, most)},
		// An invalid shape has the zero box, wherever its body is.
		{body(1, 7*one, 7*one, fixture(circle(api.Vec{}, 0))), box(-1024, -1024, 1024, 1024)},
		{body(1, 7*one, 7*one, api.Fixture{}), box(-1024, -1024, 1024, 1024)},
		{body(1, low, 0, fixture(polygon(api.Vec{X: high}))), box(-1024, -1024, 1024, 1024)},
	} {
		want := []broadphase.Proxy{{Body: 1, Fixture: 0, Bounds: r.want}}
		if got := broadphase.Proxies([]api.Body{r.body}); !slices.Equal(got, want) {
			t.Errorf("Proxies([%v]) = %v, want %v", r.body, got, want)
		}
		if got := proxiesOf([]api.Body{r.body}); !slices.Equal(got, want) {
			t.Errorf("the plain working for %v is %v, want %v", r.body, got, want)
		}
	}
}

// P22.1: every fixture of every body, in their order.
func TestProxies(t *testing.T) {
	small := fixture(circle(api.Vec{X: one}, one/4))
	sensor := api.Fixture{Shape: circle(api.Vec{}, one), Sensor: true}
	around := func(x, y, radius int) api.AABB {
		radius += 1024
		return box(x-radius, y-radius, x+radius, y+radius)
	}
	for _, r := range []struct {
		bodies []api.Body
		want   []broadphase.Proxy
	}{
		{nil, nil},
		{[]api.Body{}, nil},
		{[]api.Body{{}}, nil},
		{[]api.Body{body(4, one, one), {ID: 5, Fixtures: []api.Fixture{}}}, nil},
		{[]api.Body{ball(4, 0, 0)}, []broadphase.Proxy{{4, 0, around(0, 0, one)}}},
		{[]api.Body{body(4, 0, one, sensor, small)}, []broadphase.Proxy{{4, 0, around(0, one, one)}, {4, 1, around(one, one, one/4)}}},
		// Bodies without fixtures between others, and IDs that descend.
		{
			[]api.Body{body(9, 0, 0), body(7, 0, 0, small, small, sensor), body(5, 0, 0), ball(3, 5, 0), body(1, 0, 0)},
			[]broadphase.Proxy{{7, 0, around(one, 0, one/4)}, {7, 1, around(one, 0, one/4)}, {7, 2, around(0, 0, one)}, {3, 0, around(5, 0, one)}},
		},
		// Bodies of all kinds, asleep or not, with IDs that come several times.
		{
			[]api.Body{ofKind(api.Static, ball(2, 1, 0)), ofKind(api.Kinematic, ball(2, 2, 0)), ofKind(99, ball(2, 3, 0)), {Asleep: true, Fixtures: []api.Fixture{small}}},
			[]broadphase.Proxy{{2, 0, around(1, 0, one)}, {2, 0, around(2, 0, one)}, {2, 0, around(3, 0, one)}, {0, 0, around(one, 0, one/4)}},
		},
		// More fixtures than a valid body has, and other invalid ones between.
		{
			[]api.Body{body(low, 0, 0, small, api.Fixture{}, small, small, small, small), body(high, 0, 0, small)},
			[]broadphase.Proxy{
				{low, 0, around(one, 0, one/4)}, {low, 1, around(0, 0, 0)}, {low, 2, around(one, 0, one/4)}, {low, 3, around(one, 0, one/4)},
				{low, 4, around(one, 0, one/4)}, {low, 5, around(one, 0, one/4)}, {high, 0, around(one, 0, one/4)},
			},
		},
	} {
		if got := broadphase.Proxies(r.bodies); !slices.Equal(got, r.want) {
			t.Errorf("Proxies(%v) = %v, want %v", r.bodies, got, r.want)
		}
	}
}

// P22.2
func TestConnected(t *testing.T) {
	chain := []api.Joint{joint(1, 2), joint(3, 2), open(3, 4), joint(5, 4)}
	target := api.Joint{Kind: api.TargetJoint, BodyB: 6}
	for _, r := range []struct {
		joints []api.Joint
		a, b   int
		want   bool
	}{
		{nil, 1, 2, false},
		{[]api.Joint{}, 0, 0, false},
		{[]api.Joint{joint(1, 2)}, 1, 2, true},
		{[]api.Joint{joint(2, 1)}, 1, 2, true},
		{[]api.Joint{open(1, 2)}, 1, 2, false},
		{[]api.Joint{open(2, 1)}, 1, 2, false},
		// Some joint is enough, wherever it is.
		{[]api.Joint{open(1, 2), joint(1, 2)}, 1, 2, true},
		{[]api.Joint{joint(2, 1), open(1, 2)}, 1, 2, true},
		{[]api.Joint{open(1, 2), open(2, 1), open(1, 2)}, 1, 2, false},
		{[]api.Joint{joint(1, 3), joint(3, 2), joint(4, 1)}, 1, 2, false},
		// Only one of the bodies is that of the joint, or it is both.
		{[]api.Joint{joint(1, 2)}, 1, 1, false},
		{[]api.Joint{joint(1, 2)}, 2, 2, false},
		{[]api.Joint{joint(1, 2)}, 1, 3, false},
		{[]api.Joint{joint(1, 2)}, 3, 2, false},
		{[]api.Joint{joint(1, 2)}, 0, 0, false},
		{[]api.Joint{joint(7, 7)}, 7, 7, true},
		{[]api.Joint{joint(7, 7)}, 7, 8, false},
		// Bodies that are joined through a third one are not connected.
		{chain, 1, 2, true},
		{chain, 2, 3, true},
		{chain, 3, 4, false},
		{chain, 4, 5, true},
		{chain, 1, 3, false},
		{chain, 2, 5, false},
		// Any kind of joint, and any ID.
		{[]api.Joint{{BodyA: 3, BodyB: 8}}, 3, 8, true},
		{[]api.Joint{{Kind: 99, BodyA: -3, BodyB: low}}, -3, low, true},
		{[]api.Joint{joint(high, low)}, low, high, true},
		{[]api.Joint{joint(high, low)}, -1, high, false},
		{[]api.Joint{target}, 0, 6, true},
		{[]api.Joint{target}, 5, 6, false},
		{[]api.Joint{target}, 6, 6, false},
	} {
		for _, ids := range [][2]int{{r.a, r.b}, {r.b, r.a}} {
			if got := broadphase.Connected(r.joints, ids[0], ids[1]); got != r.want {
				t.Errorf("Connected(%v, %d, %d) = %v", r.joints, ids[0], ids[1], got)
			}
		}
	}
}

// P22.2: at least one of the bodies is dynamic.
func TestPairsOfEveryTwoKinds(t *testing.T) {
	kinds := []api.BodyKind{api.Static, api.Kinematic, api.Dynamic, 0, 4, -3, low, high}
	for _, kind := range kinds {
		for _, other := range kinds {
			a, b := ofKind(kind, ball(5, 0, 0)), ofKind(other, ball(3, one, 0))
			var want []api.PairKey
			if kind == api.Dynamic || other == api.Dynamic {
				want = []api.PairKey{key(3, 0, 5, 0)}
			}
			for _, bodies := range [][]api.Body{{a, b}, {b, a}} {
				if got := checkPairs(t, bodies, nil); !slices.Equal(got, want) {
					t.Errorf("a body of the kind %d and one of the kind %d have the pairs %v", kind, other, got)
				}
			}
		}
	}
}

// P22.2: the boxes of two balls, each 1 and the margin around the center.
func TestPairsOfBoxesThatTouch(t *testing.T) {
	touching := 2 * (one + 1024)
	for _, r := range []struct {
		x, y int
		want bool
	}{
		{0, 0, true},
		{2 * one, 0, true},
		{touching - 1, 0, true},
		{touching, 0, true},
		{touching + 1, 0, false},
		{-touching, 0, true},
		{-touching - 1, 0, false},
		{0, touching, true},
		{0, touching + 1, false},
		{0, -touching, true},
		{0, -touching - 1, false},
		// The boxes meet in a corner, although the balls are far apart there.
		{touching, touching, true},
		{touching, -touching, true},
		{touching + 1, touching, false},
		{touching, touching + 1, false},
		{-touching, -touching - 1, false},
		{most, most, false},
		{low, high, false},
	} {
		var want []api.PairKey
		if r.want {
			want = []api.PairKey{key(1, 0, 2, 0)}
		}
		for _, bodies := range [][]api.Body{{ball(1, 0, 0), ball(2, r.x, r.y)}, {ball(2, 0, 0), ball(1, r.x, r.y)}} {
			if got := checkPairs(t, bodies, nil); !slices.Equal(got, want) {
				t.Errorf("balls at {0 0} and {%d %d} have the pairs %v", r.x, r.y, got)
			}
		}
	}
}

// P22.2: bodies in any order.
func TestPairsOfBodies(t *testing.T) {
	for _, r := range []struct {
		bodies []api.Body
		want   []api.PairKey
	}{
		{nil, nil},
		{[]api.Body{}, nil},
		{[]api.Body{ball(1, 0, 0)}, nil},
		{[]api.Body{{}, {ID: 1}, {ID: 2, Kind: api.Dynamic}}, nil},
		{[]api.Body{ball(2, 0, 0), ball(1, 0, 0)}, []api.PairKey{key(1, 0, 2, 0)}},
		{[]api.Body{ball(1, 0, 0), ball(2, 0, 0)}, []api.PairKey{key(1, 0, 2, 0)}},
		// A row, with IDs that descend and in no order.
		{[]api.Body{ball(9, 0, 0), ball(7, 2*one, 0), ball(5, 4*one, 0), ball(3, 6*one, 0)}, []api.PairKey{key(3, 0, 5, 0), key(5, 0, 7, 0), key(7, 0, 9, 0)}},
		{[]api.Body{ball(5, 0, 0), ball(9, 2*one, 0), ball(3, 4*one, 0), ball(7, 6*one, 0)}, []api.PairKey{key(3, 0, 7, 0), key(3, 0, 9, 0), key(5, 0, 9, 0)}},
		{[]api.Body{ball(high, 0, 0), ball(-1, 0, 0), ball(low, 0, 0), ball(0, 0, 0)}, []api.PairKey{
			key(low, 0, -1, 0), key(low, 0, 0, 0), key(low, 0, high, 0), key(-1, 0, 0, 0), key(-1, 0, high, 0), key(0, 0, high, 0),
		}},
		// Those of the same ID are no pair, and only the first one counts.
		{[]api.Body{ball(1, 0, 0), ball(1, 0, 0), ball(1, 0, 0)}, nil},
		{[]api.Body{ball(1, 0, 0), ball(1, 8*one, 0), ball(2, 8*one, 0)}, nil},
		{[]api.Body{ball(1, 8*one, 0), ball(1, 0, 0), ball(2, 8*one, 0)}, []api.PairKey{key(1, 0, 2, 0)}},
		{[]api.Body{ball(1, 8*one, 0), ball(1, 8*one, 0), ball(2, 8*one, 0), ball(2, 8*one, 0)}, []api.PairKey{key(1, 0, 2, 0)}},
		{[]api.Body{ball(4, 0, 0), ball(1, 8*one, 0), ball(4, 8*one, 0), ball(0, 0, 0)}, []api.PairKey{key(0, 0, 4, 0)}},
		{[]api.Body{ofKind(api.Static, ball(1, 0, 0)), ball(1, 0, 0), ofKind(api.Static, ball(2, 0, 0))}, nil},
		{[]api.Body{ball(1, 0, 0), ofKind(api.Static, ball(1, 0, 0)), ofKind(api.Static, ball(2, 0, 0))}, []api.PairKey{key(1, 0, 2, 0)}},
		{[]api.Body{body(1, 0, 0), ball(1, 0, 0), ball(2, 0, 0)}, nil},
		{[]api.Body{ball(0, 0, 0), {ID: 1}, ball(1, 0, 0)}, nil},
		// Asleep, bullets, and what else a body has.
		{[]api.Body{{ID: 1, Kind: api.Dynamic, Asleep: true, Fixtures: ball(1, 0, 0).Fixtures}, {ID: 2, Kind: api.Dynamic, Asleep: true, Bullet: true, Fixtures: ball(1, 0, 0).Fixtures}}, []api.PairKey{key(1, 0, 2, 0)}},
	} {
		if got := checkPairs(t, r.bodies, nil); !slices.Equal(got, r.want) {
			t.Errorf("FindPairs(%v, nil) = %v, want %v", r.bodies, got, r.want)
		}
		if got := broadphase.FindPairs(r.bodies, []api.Joint{}); !slices.Equal(got, r.want) {
			t.Errorf("FindPairs(%v, []) = %v, want %v", r.bodies, got, r.want)
		}
	}
}

// P22.2: bodies with several fixtures, which are no pairs with each other.
func TestPairsOfSeveralFixtures(t *testing.T) {
	left, right := fixture(circle(api.Vec{X: -2 * one}, one)), fixture(circle(api.Vec{X: 2 * one}, one))
	middle, sensor := fixture(circle(api.Vec{}, one)), api.Fixture{Shape: circle(api.Vec{}, 5*one), Sensor: true, Category: 1, Mask: 1}
	for _, r := range []struct {
		bodies []api.Body
		want   []api.PairKey
	}{
		{[]api.Body{body(1, 0, 0, middle, middle, middle, left)}, nil},
		{[]api.Body{body(1, 0, 0, left, right), body(2, 4*one, 0, left, right)}, []api.PairKey{key(1, 1, 2, 0)}},
		{[]api.Body{body(2, 0, 0, left, right), body(1, 4*one, 0, left, right)}, []api.PairKey{key(1, 0, 2, 1)}},
		{[]api.Body{body(1, 0, 0, left, right), body(2, 4*one, 0, right, left)}, []api.PairKey{key(1, 1, 2, 1)}},
		{[]api.Body{turned(-api.Pi, body(1, 0, 0, left, right)), body(2, 4*one, 0, right, left)}, []api.PairKey{key(1, 0, 2, 1)}},
		{[]api.Body{body(1, 0, 0, left, middle, right), body(2, 0, 0, middle)}, []api.PairKey{key(1, 0, 2, 0), key(1, 1, 2, 0), key(1, 2, 2, 0)}},
		{[]api.Body{body(1, 0, 0, left, right), body(2, 0, 0, left, right)}, []api.PairKey{key(1, 0, 2, 0), key(1, 1, 2, 1)}},
		// A key's first fixture comes before its second body.
		{
			[]api.Body{body(3, 0, 0, middle, middle), body(2, 0, 0, middle), body(1, 0, 0, middle, middle)},
			[]api.PairKey{key(1, 0, 2, 0), key(1, 0, 3, 0), key(1, 0, 3, 1), key(1, 1, 2, 0), key(1, 1, 3, 0), key(1, 1, 3, 1), key(2, 0, 3, 0), key(2, 0, 3, 1)},
		},
		// Sensors are fixtures too.
		{[]api.Body{body(1, 0, 0, sensor), body(2, 0, 0, sensor, left)}, []api.PairKey{key(1, 0, 2, 0), key(1, 0, 2, 1)}},
		// The filters are those of the fixtures.
		{[]api.Body{body(1, 0, 0, filter(1, 2, 0), filter(2, 1, 0)), body(2, 0, 0, filter(1, 2, 0), filter(2, 1, 0))}, []api.PairKey{key(1, 0, 2, 1), key(1, 1, 2, 0)}},
		{[]api.Body{body(1, 0, 0, filter(1, 1, -1), filter(0, 0, 2)), body(2, 0, 0, filter(1, 1, -1), filter(0, 0, 2), filter(1, 1, 3))}, []api.PairKey{key(1, 0, 2, 2), key(1, 1, 2, 1)}},
		// More fixtures than a valid body has.
		{[]api.Body{body(2, 0, 0, middle), body(1, 0, 0, api.Fixture{}, left, left, left, left, middle)}, []api.PairKey{
			key(1, 1, 2, 0), key(1, 2, 2, 0), key(1, 3, 2, 0), key(1, 4, 2, 0), key(1, 5, 2, 0),
		}},
		// Invalid shapes have boxes at the origin.
		{[]api.Body{body(1, 9*one, 0, fixture(api.Shape{})), ball(2, 0, 0), ball(3, 9*one, 0)}, []api.PairKey{key(1, 0, 2, 0)}},
		{[]api.Body{body(1, 9*one, 0, fixture(api.Shape{})), body(2, -9*one, 0, fixture(circle(api.Vec{}, -1)))}, []api.PairKey{key(1, 0, 2, 0)}},
	} {
		if got := checkPairs(t, r.bodies, nil); !slices.Equal(got, r.want) {
			t.Errorf("FindPairs(%v, nil) = %v, want %v", r.bodies, got, r.want)
		}
	}
}

// P22.2: three bodies that overlap, with joints.
func TestPairsOfConnectedBodies(t *testing.T) {
	all := []api.PairKey{key(1, 0, 2, 0), key(1, 0, 3, 0), key(2, 0, 3, 0)}
	for _, r := range []struct {
		joints []api.Joint
		want   []api.PairKey
	}{
		{nil, all},
		{[]api.Joint{}, all},
		{[]api.Joint{joint(1, 2)}, all[1:]},
		{[]api.Joint{joint(2, 1)}, all[1:]},
		{[]api.Joint{joint(2, 3)}, all[:2]},
		{[]api.Joint{joint(3, 2), joint(2, 3)}, all[:2]},
		{[]api.Joint{open(1, 2)}, all},
		{[]api.Joint{open(2, 1), open(3, 1)}, all},
		{[]api.Joint{open(1, 2), joint(2, 1)}, all[1:]},
		{[]api.Joint{joint(1, 2), open(1, 2)}, all[1:]},
		{[]api.Joint{joint(1, 2), joint(2, 3)}, all[1:2]},
		{[]api.Joint{joint(3, 1), joint(1, 2), joint(3, 2)}, nil},
		{[]api.Joint{joint(1, 4), joint(9, 3), joint(0, 2), joint(2, 2)}, all},
		{[]api.Joint{{Kind: api.TargetJoint, BodyB: 2}}, all},
		{[]api.Joint{{Kind: 99, BodyA: 3, BodyB: 1}}, []api.PairKey{all[0], all[2]}},
	} {
		for _, bodies := range [][]api.Body{
			{ball(1, 0, 0), ball(2, one, 0), ball(3, 0, one)},
			{ball(3, 0, one), ball(2, one, 0), ball(1, 0, 0)},
			{ball(2, one, 0), ball(3, 0, one), ball(1, 0, 0), ball(2, 9*one, 0)},
		} {
			if got := checkPairs(t, bodies, r.joints); !slices.Equal(got, r.want) {
				t.Errorf("FindPairs(%v, %v) = %v, want %v", bodies, r.joints, got, r.want)
			}
		}
	}
}

// P22.2: joints that connect bodies connect all their fixtures.
func TestPairsOfConnectedBodiesWithSeveralFixtures(t *testing.T) {
	middle := fixture(circle(api.Vec{}, one))
	bodies := []api.Body{body(1, 0, 0, middle, middle), body(2, 0, 0, middle, middle), ofKind(api.Static, body(3, 0, 0, middle))}
	want := []api.PairKey{key(1, 0, 3, 0), key(1, 1, 3, 0), key(2, 0, 3, 0), key(2, 1, 3, 0)}
	if got := checkPairs(t, bodies, []api.Joint{joint(2, 1)}); !slices.Equal(got, want) {
		t.Errorf("FindPairs = %v, want %v", got, want)
	}
}

// P22.3
func TestLess(t *testing.T) {
	// Each key precedes all those after it.
	ascending := []api.PairKey{
		key(low, high, high, high), key(-1, 9, 9, 9),
		key(0, 0, 0, 0), key(0, 0, 0, 1), key(0, 0, 1, 0), key(0, 1, 0, 0), key(0, 9, 9, 9),
		key(1, -1, 5, 5), key(1, 3, 4, 9), key(1, 3, 5, 5), key(1, 3, 5, 6), key(1, 3, 6, 0), key(1, 4, 0, 0),
		key(2, low, low, low), key(2, 0, low, high), key(2, 0, 0, low), key(2, 0, 0, high),
		key(high, low, low, low), key(high, high, high, high),
	}
	for i, a := range ascending {
		for j, b := range ascending {
			if got := broadphase.Less(a, b); got != (i < j) {
				t.Errorf("Less(%v, %v) = %v", a, b, got)
			}
		}
	}
}

// P22.3: keys that differ in one of the fields alone.
func TestLessInOneField(t *testing.T) {
	least := key(4, 2, 7, 1)
	for _, greater := range []api.PairKey{key(5, 2, 7, 1), key(4, 3, 7, 1), key(4, 2, 8, 1), key(4, 2, 7, 2), key(high, 2, 7, 1), key(4, high, 7, 1), key(4, 2, high, 1), key(4, 2, 7, high)} {
		if !broadphase.Less(least, greater) || broadphase.Less(greater, least) {
			t.Errorf("%v does not precede %v", least, greater)
		}
	}
	if broadphase.Less(least, least) {
		t.Errorf("%v precedes itself", least)
	}
}

// P22.3
func TestValidKeys(t *testing.T) {
	for _, r := range []struct {
		keys []api.PairKey
		want bool
	}{
		{nil, true},
		{[]api.PairKey{}, true},
		{[]api.PairKey{key(1, 0, 2, 0)}, true},
		{[]api.PairKey{{}}, false},
		// The IDs of the bodies.
		{[]api.PairKey{key(1, 0, 1, 0)}, false},
		{[]api.PairKey{key(1, 0, 1, 3)}, false},
		{[]api.PairKey{key(2, 0, 1, 0)}, false},
		{[]api.PairKey{key(2, 0, 1, 3)}, false},
		{[]api.PairKey{key(high, 0, low, 0)}, false},
		{[]api.PairKey{key(0, 0, 1, 0)}, true},
		{[]api.PairKey{key(-1, 0, 0, 0)}, true},
		{[]api.PairKey{key(low, 0, high, 0)}, true},
		{[]api.PairKey{key(api.MaxID, 0, api.MaxID+1, 0)}, true},
		// The indices of the fixtures.
		{[]api.PairKey{key(1, api.MaxFixtures-1, 2, 0)}, true},
		{[]api.PairKey{key(1, 0, 2, api.MaxFixtures-1)}, true},
		{[]api.PairKey{key(1, 3, 2, 3)}, true},
		{[]api.PairKey{key(1, -1, 2, 0)}, false},
		{[]api.PairKey{key(1, 0, 2, -1)}, false},
		{[]api.PairKey{key(1, api.MaxFixtures, 2, 0)}, false},
		{[]api.PairKey{key(1, 0, 2, api.MaxFixtures)}, false},
		{[]api.PairKey{key(1, low, 2, 0)}, false},
		{[]api.PairKey{key(1, 0, 2, high)}, false},
		// Lists that ascend by each of the fields, repeat or descend.
		{[]api.PairKey{key(1, 3, 9, 3), key(2, 0, 3, 0)}, true},
		{[]api.PairKey{key(1, 0, 9, 3), key(1, 1, 2, 0)}, true},
		{[]api.PairKey{key(1, 0, 2, 3), key(1, 0, 3, 0)}, true},
		{[]api.PairKey{key(1, 0, 2, 0), key(1, 0, 2, 1)}, true},
		{[]api.PairKey{key(2, 0, 3, 0), key(1, 3, 9, 3)}, false},
		{[]api.PairKey{key(1, 1, 2, 0), key(1, 0, 9, 3)}, false},
		{[]api.PairKey{key(1, 0, 3, 0), key(1, 0, 2, 3)}, false},
		{[]api.PairKey{key(1, 0, 2, 1), key(1, 0, 2, 0)}, false},
		{[]api.PairKey{key(1, 0, 2, 0), key(1, 0, 2, 0)}, false},
		{[]api.PairKey{key(1, 0, 2, 0), key(1, 0, 2, 1), key(1, 0, 2, 1)}, false},
		{[]api.PairKey{key(1, 0, 2, 0), key(1, 0, 2, 1), key(1, 0, 2, 0)}, false},
		{[]api.PairKey{key(1, 0, 2, 1), key(1, 0, 2, 1), key(1, 0, 2, 2)}, false},
		{[]api.PairKey{key(1, 0, 2, 0), key(1, 0, 2, 1), key(1, 0, 3, 0), key(1, 2, 3, 0), key(2, 0, 3, 0)}, true},
		{[]api.PairKey{key(1, 0, 2, 0), key(1, 2, 3, 0), key(1, 0, 3, 0), key(2, 0, 3, 0)}, false},
		// A key that is out of range among others.
		{[]api.PairKey{key(1, -1, 2, 0), key(1, 0, 2, 1)}, false},
		{[]api.PairKey{key(1, 0, 2, 3), key(1, 0, 2, 4)}, false},
		{[]api.PairKey{key(1, 0, 2, 3), key(2, 0, 2, 3), key(2, 0, 3, 3)}, false},
		{[]api.PairKey{key(1, 0, 2, 3), key(2, 0, 3, 3), key(3, 0, 2, 3)}, false},
	} {
		if got := broadphase.ValidKeys(r.keys); got != r.want {
			t.Errorf("ValidKeys(%v) = %v", r.keys, got)
		}
		if got := validKeysOf(r.keys); got != r.want {
			t.Errorf("the plain working for %v is %v", r.keys, got)
		}
	}
}

// The example of chapter 22.
func TestExample(t *testing.T) {
	for _, r := range []struct {
		gap  int
		want int
	}{{0, 1}, {margin, 1}, {2*margin - 1, 1}, {2*margin + 1, 0}} {
		bodies := []api.Body{ball(1, 0, 0), ball(2, 2*one+r.gap, 0)}
		if got := broadphase.FindPairs(bodies, nil); len(got) != r.want {
			t.Errorf("circles that are %d apart have the pairs %v", r.gap, got)
		}
	}
}
