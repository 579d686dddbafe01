package broadphase_test

import (
	"math/rand"
	"slices"

	"carom/api"
	"carom/broadphase"
	"carom/shape"
	"carom/transform"
)

// The functions of this file work the promised answers out by plain searches over all fixtures, without packages aabb, bvh and sap and without shape.Bounds.

// shareABit tells whether some bit is set in both numbers.
func shareABit(a, b int) bool {
	for bit := range 64 {
		if uint64(a)>>bit%2 == 1 && uint64(b)>>bit%2 == 1 {
			return true
		}
	}
	return false
}

func shouldCollideOf(a, b api.Fixture) bool {
	switch {
	case a.Group != b.Group || a.Group == 0:
		return shareABit(a.Category, b.Mask) && shareABit(b.Category, a.Mask)
	default:
		return a.Group > 0
	}
}

func clamp(x int) int {
	return max(-most, min(most, x))
}

// boxOf is the box around the vertices at the transform, with the radius and the margin on each side. An invalid shape has the zero box.
func boxOf(f api.Fixture, t api.Transform) api.AABB {
	if shape.Validate(f.Shape) != api.OK {
		return box(-margin, -margin, margin, margin)
	}
	var xs, ys []int
	for _, v := range f.Shape.Vertices {
		v = transform.Apply(t, v)
		xs, ys = append(xs, v.X), append(ys, v.Y)
	}
	around := f.Shape.Radius + margin
	return box(clamp(slices.Min(xs)-around), clamp(slices.Min(ys)-around), clamp(slices.Max(xs)+around), clamp(slices.Max(ys)+around))
}

func proxiesOf(bodies []api.Body) []broadphase.Proxy {
	var list []broadphase.Proxy
	for _, b := range bodies {
		for i := range b.Fixtures {
			list = append(list, broadphase.Proxy{Body: b.ID, Fixture: i, Bounds: boxOf(b.Fixtures[i], b.Transform)})
		}
	}
	return list
}

// connectedOf looks for a joint whose bodies are a and b, ignoring which of them comes first.
func connectedOf(joints []api.Joint, a, b int) bool {
	return slices.ContainsFunc(joints, func(j api.Joint) bool {
		return min(j.BodyA, j.BodyB) == min(a, b) && max(j.BodyA, j.BodyB) == max(a, b) && !j.CollideConnected
	})
}

// haveCommon tells whether some number lies in both intervals.
func haveCommon(low, high, otherLow, otherHigh int) bool {
	return max(low, otherLow) <= min(high, otherHigh)
}

func doOverlap(a, b api.AABB) bool {
	return haveCommon(a.Min.X, a.Max.X, b.Min.X, b.Max.X) && haveCommon(a.Min.Y, a.Max.Y, b.Min.Y, b.Max.Y)
}

// lessOf holds the keys against each other as lists of numbers.
func lessOf(a, b api.PairKey) bool {
	return slices.Compare([]int{a.BodyA, a.FixtureA, a.BodyB, a.FixtureB}, []int{b.BodyA, b.FixtureA, b.BodyB, b.FixtureB}) == -1
}

// keyOf is the key of two fixtures, with the smaller ID of their bodies first.
func keyOf(body, fixture, otherBody, other int) api.PairKey {
	if body > otherBody {
		body, fixture, otherBody, other = otherBody, other, body, fixture
	}
	return api.PairKey{BodyA: body, FixtureA: fixture, BodyB: otherBody, FixtureB: other}
}

// isShadowed tells whether an earlier body has the ID of body i.
func isShadowed(bodies []api.Body, i int) bool {
	for _, b := range bodies[:i] {
		if b.ID == bodies[i].ID {
			return true
		}
	}
	return false
}

// isWanted tells whether two fixtures of bodies with different IDs may collide where their boxes overlap.
func isWanted(a, b api.Body, i, j int, joints []api.Joint) bool {
	if a.Kind != api.Dynamic && b.Kind != api.Dynamic {
		return false
	}
	return shouldCollideOf(a.Fixtures[i], b.Fixtures[j]) && !connectedOf(joints, a.ID, b.ID)
}

// keysOfTwo are the keys of all pairs of fixtures of two bodies.
func keysOfTwo(a, b api.Body, joints []api.Joint) []api.PairKey {
	var keys []api.PairKey
	for i, f := range a.Fixtures {
		for j, g := range b.Fixtures {
			if isWanted(a, b, i, j, joints) && doOverlap(boxOf(f, a.Transform), boxOf(g, b.Transform)) {
				keys = append(keys, keyOf(a.ID, i, b.ID, j))
			}
		}
	}
	return keys
}

// pairsOf compares each body that counts with each other one.
func pairsOf(bodies []api.Body, joints []api.Joint) []api.PairKey {
	var keys []api.PairKey
	for i, a := range bodies {
		for j, b := range bodies[:i] {
			if a.ID != b.ID && !isShadowed(bodies, i) && !isShadowed(bodies, j) {
				keys = append(keys, keysOfTwo(a, b, joints)...)
			}
		}
	}
	return sorted(keys)
}

func sorted(keys []api.PairKey) []api.PairKey {
	slices.SortFunc(keys, func(a, b api.PairKey) int {
		if lessOf(a, b) {
			return -1
		}
		return 1
	})
	return keys
}

// validKeysOf asks each key to be in range and less than each later one.
func validKeysOf(keys []api.PairKey) bool {
	for i, key := range keys {
		if min(key.FixtureA, key.FixtureB) < 0 || max(key.FixtureA, key.FixtureB) > 3 || !(key.BodyA < key.BodyB) {
			return false
		}
		for _, later := range keys[i+1:] {
			if !lessOf(key, later) {
				return false
			}
		}
	}
	return true
}

// dice draws numbers, the same ones for each seed.
type dice struct{ source *rand.Rand }

func newDice(seed int64) dice {
	return dice{rand.New(rand.NewSource(seed))}
}

// number draws a number from -limit to limit.
func (d dice) number(limit int) int {
	return d.source.Intn(2*limit+1) - limit
}

func (d dice) vec(limit int) api.Vec {
	return api.Vec{X: d.number(limit), Y: d.number(limit)}
}

// shape draws a shape of any kind, which is invalid now and then.
func (d dice) shape() api.Shape {
	at := d.vec(one)
	switch d.source.Intn(16) {
	case 0, 1, 2, 3, 4:
		return circle(at, api.MinRadius+d.source.Intn(one))
	case 5, 6, 7, 8:
		to := api.Vec{X: at.X + api.MinEdgeLength + d.source.Intn(one), Y: at.Y + d.number(one)}
		return api.Shape{Kind: api.Capsule, Radius: api.MinRadius + d.source.Intn(one/2), Vertices: []api.Vec{at, to}}
	case 9:
		return api.Shape{}
	case 10:
		return circle(at, api.MinRadius-1)
	}
	width, height := one/4+d.source.Intn(one), one/4+d.source.Intn(one)
	return polygon(at, api.Vec{X: at.X + width, Y: at.Y}, api.Vec{X: at.X + width, Y: at.Y + height}, api.Vec{X: at.X, Y: at.Y + height})
}

// fixture draws a fixture that most others collide with.
func (d dice) fixture() api.Fixture {
	return api.Fixture{
		Shape:    d.shape(),
		Sensor:   d.source.Intn(2) == 0,
		Category: 1 + d.source.Intn(3),
		Mask:     1 + d.source.Intn(3),
		Group:    d.number(3) * d.source.Intn(2),
	}
}

// body draws a body with up to 5 fixtures near the origin.
func (d dice) body(id, limit int) api.Body {
	b := api.Body{ID: id, Kind: api.BodyKind(d.source.Intn(5)), Transform: api.Transform{Position: d.vec(limit), Angle: d.number(api.Pi)}}
	for range d.source.Intn(6) {
		b.Fixtures = append(b.Fixtures, d.fixture())
	}
	return b
}

// bodies draws bodies with IDs out of some, so that they come several times if there are few.
func (d dice) bodies(count, ids, limit int) []api.Body {
	list := make([]api.Body, count)
	for i := range list {
		list[i] = d.body(d.source.Intn(ids)-ids/3, limit)
	}
	return list
}

// joints draws joints between bodies with IDs out of some.
func (d dice) joints(count, ids int) []api.Joint {
	list := make([]api.Joint, count)
	for i := range list {
		list[i] = api.Joint{ID: i, BodyA: d.source.Intn(ids) - ids/3, BodyB: d.source.Intn(ids) - ids/3, CollideConnected: d.source.Intn(2) == 0}
	}
	return list
}

// keys draws keys that are often in range.
func (d dice) keys(count int) []api.PairKey {
	list := make([]api.PairKey, count)
	for i := range list {
		body := d.source.Intn(3)
		list[i] = api.PairKey{BodyA: body, FixtureA: d.source.Intn(5) - d.source.Intn(2), BodyB: body + d.source.Intn(4), FixtureB: d.source.Intn(4)}
	}
	return list
}
