package shape_test

import (
	"math"
	"reflect"
	"slices"
	"testing"

	"carom/angle"
	"carom/api"
	"carom/shape"
)

// slant is an angle of about 30 degrees. Its rotation is {Cos: 56763, Sin: 32757}, and that of One is {Cos: 35399, Sin: 55153}.
const slant = 34315

// Shapes that do not lie around the origin: a wheel, a bar and a wedge.
func wheel() api.Shape {
	return circle(one, one, half)
}

func bar() api.Shape {
	return capsule(half, -one, 0, 2*one, one)
}

func wedge() api.Shape {
	return poly(-one, -one, 2*one, -one, 0, one)
}

// valid are shapes of every kind, the largest and the smallest among them.
func valid() []api.Shape {
	return append(ordinary(), wheel(), bar(), wedge(),
		circle(api.MinRadius, limit, -limit), circle(api.MaxRadius, -limit, limit),
		capsule(api.MinRadius, 0, 0, 4096, 0), capsule(api.MaxRadius, -limit, -limit, limit, limit),
		poly(0, 0, 4096, 0, 4096, 4096, 0, 4096), poly(-limit, -limit, limit, -limit, limit, limit, -limit, limit),
	)
}

func vertices(p placed) []api.Vec {
	return shape.Vertices(p.s, p.t)
}

func bounds(p placed) api.AABB {
	return shape.Bounds(p.s, p.t)
}

func containsPoint(a aimed) bool {
	return shape.ContainsPoint(a.s, a.t, a.v)
}

func support(a aimed) api.Vec {
	return shape.Support(a.s, a.t, a.v)
}

func around(x1, y1, x2, y2 int) api.AABB {
	return api.AABB{Min: vec(x1, y1), Max: vec(x2, y2)}
}

// P12.2, P12.3
func TestInvalidShapesHaveNothing(t *testing.T) {
	for _, r := range faults() {
		s := r.args
		for _, place := range []api.Transform{at(0, 0, 0), at(one, -one, slant), at(most, high, low), at(far, -far, pi)} {
			if got := shape.Vertices(s, place); got != nil {
				t.Errorf("Vertices(%v, %v) = %v", s, place, got)
			}
			if got := shape.Bounds(s, place); got != (api.AABB{}) {
				t.Errorf("Bounds(%v, %v) = %v", s, place, got)
			}
			for _, v := range append(path(0, 0, 1, 1, one, -one, low, high, most, most), place.Position) {
				if shape.ContainsPoint(s, place, v) {
					t.Errorf("ContainsPoint(%v, %v, %v) = true", s, place, v)
				}
				if got := shape.Support(s, place, v); got != vec(0, 0) {
					t.Errorf("Support(%v, %v, %v) = %v", s, place, v, got)
				}
			}
		}
		if got := shape.BoundingRadius(s); got != 0 {
			t.Errorf("BoundingRadius(%v) = %d", s, got)
		}
	}
}

// P12.2
func TestVertices(t *testing.T) {
	check(t, "Vertices", vertices, wantVertices, []row[placed, []api.Vec]{
		{placed{wheel(), at(0, 0, 0)}, path(one, half)},
		{placed{bar(), at(0, 0, 0)}, path(-one, 0, 2*one, one)},
		{placed{wedge(), at(0, 0, 0)}, path(-one, -one, 2*one, -one, 0, one)},
		{placed{wheel(), at(7, -9, 0)}, path(one+7, half-9)},
		// Quarter turns.
		{placed{wheel(), at(7, -9, quarter)}, path(7-half, one-9)},
		{placed{bar(), at(7, -9, quarter)}, path(7, -one-9, 7-one, 2*one-9)},
		{placed{wedge(), at(7, -9, -pi)}, path(one+7, one-9, -2*one+7, one-9, 7, -one-9)},
		// Any other angle.
		{placed{wheel(), at(0, 0, slant)}, path(40385, 61139)},
		{placed{wheel(), at(10*one, -5*one, slant)}, path(695745, -266541)},
		{placed{wheel(), at(10*one, -5*one, -one)}, path(718336, -365134)},
		{placed{bar(), at(10*one, -5*one, slant)}, path(598597, -360437, 736129, -205403)},
		{placed{bar(), at(10*one, -5*one, -one)}, path(619961, -272527, 781311, -402587)},
		{placed{wedge(), at(0, 0, slant)}, path(-24006, -89520, 146283, 8751, -32757, 56763)},
		{placed{wedge(), at(10*one, -5*one, -one)}, path(564808, -307926, 671005, -473385, 710513, -292281)},
		// At the limit of the world.
		{placed{bar(), at(world, -world, one)}, path(268400057, -268490609, 268451101, -268289751)},
		// Beyond it, the position and the vertices are saturated.
		{placed{wheel(), at(most, most, 0)}, path(most, most)},
		{placed{bar(), at(most, most, 0)}, path(most-one, most, most, most)},
		{placed{wedge(), at(high, low, 0)}, path(most-one, -most, most, -most, most, one-most)},
		{placed{wheel(), at(far, low, high)}, path(536850113, -most)},
	}, placedShapes())
}

// P12.2
func TestBounds(t *testing.T) {
	rows := []row[placed, api.AABB]{
		// A core that is a point, a segment or a polygon, enlarged by the radius.
		{placed{disc(), at(0, 0, 0)}, around(-one, -one, one, one)},
		{placed{wheel(), at(0, 0, 0)}, around(0, -half, 2*one, 3*half)},
		{placed{pill(), at(0, 0, 0)}, around(-one, -one, 5*one, one)},
		{placed{bar(), at(0, 0, 0)}, around(-3*half, -half, 5*half, 3*half)},
		{placed{box(), at(0, 0, 0)}, around(0, 0, one, one)},
		{placed{wedge(), at(0, 0, 0)}, around(-one, -one, 2*one, one)},
		{placed{octagon(), at(5, -6, 0)}, around(5, -6, 3*one+5, 3*one-6)},
		{placed{circle(api.MinRadius, 0, 0), at(0, 0, 0)}, around(-2048, -2048, 2048, 2048)},
		{placed{circle(api.MaxRadius, limit, -limit), at(0, 0, 0)}, around(8*one, -24*one, 24*one, -8*one)},
		// Quarter turns.
		{placed{pill(), at(0, 0, quarter)}, around(-one, -one, one, 5*one)},
		{placed{pill(), at(0, 0, -pi)}, around(-5*one, -one, one, one)},
		{placed{box(), at(one, 0, quarter)}, around(0, 0, one, one)},
		// Any other angle.
		{placed{wheel(), at(10*one, -5*one, slant)}, around(630209, -332077, 761281, -201005)},
		{placed{bar(), at(10*one, -5*one, slant)}, around(565829, -393205, 768897, -172635)},
		{placed{bar(), at(10*one, -5*one, -one)}, around(587193, -435355, 814079, -239759)},
		{placed{wedge(), at(10*one, -5*one, slant)}, around(622603, -417200, 801643, -270917)},
		// At the limit of the world.
		{placed{wheel(), at(world, -world, one)}, around(268377743, -268428139, 268508815, -268297067)},
		// Beyond it, the sides are saturated, each by itself.
		{placed{disc(), at(most, most, 0)}, around(most-one, most-one, most, most)},
		{placed{disc(), at(low, high, 0)}, around(-most, most-one, one-most, most)},
		{placed{pill(), at(most-one, 0, 0)}, around(most-2*one, -one, most, one)},
		{placed{pill(), at(far, -far, 0)}, around(most-one, -most, most, one-most)},
		{placed{box(), at(far, -far, 0)}, around(most, -most, most, one-most)},
	}
	for _, angle := range []int{0, 1, -1, slant, -777, quarter, one, -3 * one, -pi, pi - 1, 99 * one, low, high} {
		// The chapter's example.
		rows = append(rows, row[placed, api.AABB]{placed{disc(), at(0, 0, angle)}, around(-one, -one, one, one)})
	}
	check(t, "Bounds", bounds, wantBounds, rows, placedShapes())
}

// P12.2
func TestBoundingRadius(t *testing.T) {
	check(t, "BoundingRadius", shape.BoundingRadius, wantBoundingRadius, []row[api.Shape, int]{
		{disc(), one},
		{circle(api.MinRadius, 0, 0), api.MinRadius},
		{circle(one, 3*one, -4*one), 6 * one},
		{pill(), 5 * one},
		{capsule(one, 3*one, 4*one, one, one), 6 * one},
		{capsule(half, one, one, -3*one, -4*one), 5*one + half},
		// The length is rounded down before the radius is added: sqrt(2), sqrt(5).
		{circle(5000, 1, 1), 5001},
		{circle(5000, -2, 1), 5002},
		{box(), 92681},
		{wedge(), 146542},
		{poly(-4*one, -3*one, one, -one, one, one), 5 * one},
		{octagon(), 236293},
		// The largest ones.
		{circle(api.MaxRadius, limit, limit), 1482910 + 8*one},
		{capsule(api.MaxRadius, -limit, -limit, limit, 0), 1482910 + 8*one},
		{poly(-limit, -limit, limit, -limit, limit, limit, -limit, limit), 1482910},
	}, shapes())
}

// P12.3
func TestCircleContainsPoint(t *testing.T) {
	o, place := at(0, 0, 0), at(10*one, -5*one, slant)
	check(t, "ContainsPoint", containsPoint, wantContainsPoint, []row[aimed, bool]{
		{aimed{disc(), o, vec(0, 0)}, true},
		// On the edge and one step beyond it.
		{aimed{disc(), o, vec(one, 0)}, true},
		{aimed{disc(), o, vec(one+1, 0)}, false},
		{aimed{disc(), o, vec(-one, 0)}, true},
		{aimed{disc(), o, vec(-one-1, 0)}, false},
		{aimed{disc(), o, vec(0, one)}, true},
		{aimed{disc(), o, vec(0, one+1)}, false},
		{aimed{disc(), o, vec(0, -one)}, true},
		{aimed{disc(), o, vec(0, -one-1)}, false},
		{aimed{circle(5*2000, 0, 0), o, vec(6000, -8000)}, true},
		{aimed{circle(5*2000-1, 0, 0), o, vec(6000, -8000)}, false},
		// The length is rounded down, so that less than one step beyond still counts.
		{aimed{disc(), o, vec(one, 1)}, true},
		{aimed{disc(), o, vec(one, 362)}, true},
		{aimed{disc(), o, vec(one, 363)}, false},
		{aimed{disc(), o, vec(46342, 46341)}, true},
		{aimed{disc(), o, vec(46342, 46342)}, false},
		// The corners of its box.
		{aimed{disc(), o, vec(one, one)}, false},
		{aimed{disc(), o, vec(-one, one)}, false},
		// Elsewhere: its center is (40385, 61139) away from the position.
		{aimed{wheel(), o, vec(2*one, half)}, true},
		{aimed{wheel(), o, vec(2*one+1, half)}, false},
		{aimed{wheel(), place, vec(695745+one, -266541)}, true},
		{aimed{wheel(), place, vec(695745+one+1, -266541)}, false},
		{aimed{wheel(), place, vec(695745, -266541-one)}, true},
		{aimed{wheel(), place, vec(695745, -266541-one-1)}, false},
		{aimed{wheel(), place, vec(10*one, -5*one)}, false},
		{aimed{wheel(), at(world, -world, one), vec(268443279, -268362603+one)}, true},
		{aimed{wheel(), at(world, -world, one), vec(268443279, -268362603+one+1)}, false},
		// Points and positions are saturated first, and so is their difference.
		{aimed{disc(), o, vec(high, 0)}, false},
		{aimed{disc(), o, vec(low, low)}, false},
		{aimed{disc(), o, vec(1<<32, 1<<32)}, false},
		{aimed{disc(), o, vec(0, 1<<62)}, false},
		{aimed{disc(), at(most, most, 0), vec(high, far)}, true},
		{aimed{disc(), at(most, most, 0), vec(most-one, high)}, true},
		{aimed{disc(), at(most, most, 0), vec(most-one-1, high)}, false},
		{aimed{disc(), at(far, low, 0), vec(high, -most)}, true},
		{aimed{disc(), at(far, low, 0), vec(most, one-most)}, true},
		{aimed{disc(), at(far, low, 0), vec(most, one-most+1)}, false},
		{aimed{disc(), at(-most, 0, 0), vec(most, 0)}, false},
		{aimed{disc(), at(low, low, 0), vec(high, high)}, false},
	}, aimsAt(api.Circle))
}

// P12.3
func TestCapsuleContainsPoint(t *testing.T) {
	o, place := at(0, 0, 0), at(10*one, -5*one, slant)
	check(t, "ContainsPoint", containsPoint, wantContainsPoint, []row[aimed, bool]{
		// On the axis.
		{aimed{pill(), o, vec(0, 0)}, true},
		{aimed{pill(), o, vec(2*one+7, 0)}, true},
		{aimed{pill(), o, vec(4*one, 0)}, true},
		// On the edge and one step beyond it: on both sides and at both ends.
		{aimed{pill(), o, vec(2*one, one)}, true},
		{aimed{pill(), o, vec(2*one, one+1)}, false},
		{aimed{pill(), o, vec(one, -one)}, true},
		{aimed{pill(), o, vec(one, -one-1)}, false},
		{aimed{pill(), o, vec(0, one)}, true},
		{aimed{pill(), o, vec(0, one+1)}, false},
		{aimed{pill(), o, vec(4*one, -one)}, true},
		{aimed{pill(), o, vec(4*one, -one-1)}, false},
		{aimed{pill(), o, vec(-one, 0)}, true},
		{aimed{pill(), o, vec(-one-1, 0)}, false},
		{aimed{pill(), o, vec(5*one, 0)}, true},
		{aimed{pill(), o, vec(5*one+1, 0)}, false},
		{aimed{capsule(10000, 0, 0, 4*one, 0), o, vec(-8000, 6000)}, true},
		{aimed{capsule(9999, 0, 0, 4*one, 0), o, vec(-8000, 6000)}, false},
		{aimed{capsule(10000, 0, 0, 4*one, 0), o, vec(4*one+6000, -8000)}, true},
		{aimed{capsule(9999, 0, 0, 4*one, 0), o, vec(4*one+6000, -8000)}, false},
		// Rounded down at an end.
		{aimed{pill(), o, vec(4*one+46342, 46341)}, true},
		{aimed{pill(), o, vec(4*one+46342, 46342)}, false},
		// The corners of its box.
		{aimed{pill(), o, vec(5*one, one)}, false},
		{aimed{pill(), o, vec(-one, -one)}, false},
		// An axis aslant: (3, 4) is half of the way, and 5 from (7, 1) and (-1, 7).
		{aimed{capsule(5*one, 0, 0, 6*one, 8*one), o, vec(7*one, one)}, true},
		{aimed{capsule(5*one, 0, 0, 6*one, 8*one), o, vec(-one, 7*one)}, true},
		{aimed{capsule(5*one-1, 0, 0, 6*one, 8*one), o, vec(7*one, one)}, false},
		{aimed{capsule(5*one-1, 0, 0, 6*one, 8*one), o, vec(-one, 7*one)}, false},
		// The closest point of the axis is rounded from its first end.
		{aimed{capsule(2531, 0, 0, 4097, 4096), o, vec(3836, 255)}, false},
		{aimed{capsule(2531, 4097, 4096, 0, 0), o, vec(3836, 255)}, true},
		{aimed{capsule(2532, 0, 0, 4097, 4096), o, vec(3836, 255)}, true},
		{aimed{capsule(2532, 4097, 4096, 0, 0), o, vec(3836, 255)}, true},
		// Turned: the core of the bar leads from (598597, -360437) to (736129, -205403).
		{aimed{bar(), place, vec(598597, -360437)}, true},
		{aimed{bar(), place, vec(598597, -360437-half)}, true},
		{aimed{bar(), place, vec(598597, -360437-half-1)}, false},
		{aimed{bar(), place, vec(736129+half, -205403)}, true},
		{aimed{bar(), place, vec(736129+half+1, -205403)}, false},
		{aimed{bar(), place, vec(667363, -282920)}, true},
		{aimed{bar(), place, vec(667363+24513, -282920-21745)}, true},
		{aimed{bar(), place, vec(667363+24514, -282920-21747)}, false},
		{aimed{bar(), place, vec(10*one, -5*one)}, true},
		{aimed{pill(), at(0, 0, quarter), vec(one, 2*one)}, true},
		{aimed{pill(), at(0, 0, quarter), vec(one+1, 2*one)}, false},
		// Points and positions are saturated first.
		{aimed{pill(), o, vec(high, 0)}, false},
		{aimed{pill(), o, vec(1<<32, 0)}, false},
		{aimed{pill(), o, vec(low, high)}, false},
		{aimed{pill(), o, vec(-1<<63+one, 1<<62)}, false},
		{aimed{pill(), at(most-2*one, 0, 0), vec(high, one)}, true},
		{aimed{pill(), at(most-2*one, 0, 0), vec(high, one+1)}, false},
		{aimed{pill(), at(high, high, 0), vec(far, most-one)}, true},
		{aimed{pill(), at(high, high, 0), vec(far, most-one-1)}, false},
		{aimed{pill(), at(-most, -most, 0), vec(low, one-most)}, true},
		{aimed{pill(), at(-most, -most, 0), vec(low, one-most+1)}, false},
		{aimed{pill(), at(low, 0, 0), vec(high, 0)}, false},
	}, aimsAt(api.Capsule))
}

// P12.3
func TestPolygonContainsPoint(t *testing.T) {
	o, place := at(0, 0, 0), at(10*one, -5*one, slant)
	rows := []row[aimed, bool]{
		{aimed{box(), o, vec(half, half)}, true},
		{aimed{box(), o, vec(1, 1)}, true},
		// On each edge and one step beyond it.
		{aimed{box(), o, vec(half, 0)}, true},
		{aimed{box(), o, vec(half, -1)}, false},
		{aimed{box(), o, vec(one, half)}, true},
		{aimed{box(), o, vec(one+1, half)}, false},
		{aimed{box(), o, vec(half, one)}, true},
		{aimed{box(), o, vec(half, one+1)}, false},
		{aimed{box(), o, vec(0, half)}, true},
		{aimed{box(), o, vec(-1, half)}, false},
		// On the lines through the edges.
		{aimed{box(), o, vec(one+1, 0)}, false},
		{aimed{box(), o, vec(-1, one)}, false},
		// Edges aslant.
		{aimed{octagon(), o, vec(5*half, half)}, true},
		{aimed{octagon(), o, vec(5*half+1, half)}, false},
		{aimed{octagon(), o, vec(half, 5*half)}, true},
		{aimed{octagon(), o, vec(half, 5*half+1)}, false},
		{aimed{octagon(), o, vec(0, 0)}, false},
		// Turned by half a right angle: the box has its corners at (0, 0), (46341, 46341), (0, 92682) and (-46341, 46341).
		{aimed{box(), at(0, 0, quarter/2), vec(20000, 20000)}, true},
		{aimed{box(), at(0, 0, quarter/2), vec(20001, 20000)}, false},
		{aimed{box(), at(0, 0, quarter/2), vec(0, 92682)}, true},
		{aimed{box(), at(0, 0, quarter/2), vec(0, 92683)}, false},
		{aimed{box(), at(0, 0, quarter/2), vec(46341, 46341)}, true},
		{aimed{box(), at(0, 0, quarter/2), vec(46341, 46342)}, false},
		// Turned and far from the origin: the core of the wedge is (631354, -417200), (801643, -318929), (622603, -270917).
		{aimed{wedge(), place, vec(10*one, -5*one)}, true},
		{aimed{wedge(), place, vec(631354, -417201)}, false},
		{aimed{wedge(), place, vec(716498, -368064)}, true},
		{aimed{wedge(), place, vec(716498, -368065)}, false},
		{aimed{wedge(), place, vec(712123, -294923)}, true},
		{aimed{wedge(), place, vec(712123, -294922)}, false},
		{aimed{wedge(), place, vec(0, 0)}, false},
		{aimed{wedge(), at(world, world, slant), vec(world, world)}, true},
		{aimed{wedge(), at(world, world, slant), vec(world, world-limit)}, false},
		// Points and positions are saturated first.
		{aimed{box(), o, vec(high, high)}, false},
		{aimed{box(), o, vec(low, half)}, false},
		{aimed{box(), o, vec(1<<32, 0)}, false},
		{aimed{box(), o, vec(half, 1<<62)}, false},
		{aimed{box(), at(most-one, most-one, 0), vec(high, far)}, true},
		{aimed{box(), at(most-one, most-one, 0), vec(high, most-one)}, true},
		{aimed{box(), at(most-one, most-one, 0), vec(high, most-one-1)}, false},
		{aimed{box(), at(-most, -most, 0), vec(low, low)}, true},
		{aimed{box(), at(-most, -most, 0), vec(low, one-most+1)}, false},
		// Beyond the range, the core is an edge or a point, which leaves no point to the right of an edge.
		{aimed{box(), at(far, 0, 0), vec(most, half)}, true},
		{aimed{box(), at(far, 0, 0), vec(most, 2*one)}, true},
		{aimed{box(), at(far, 0, 0), vec(most-1, half)}, false},
		{aimed{box(), at(far, far, 0), vec(0, 0)}, true},
	}
	for _, s := range []api.Shape{box(), octagon(), wedge(), poly(-limit, -limit, limit, -limit, limit, limit, -limit, limit)} {
		for _, place := range []api.Transform{o, place, at(-world, world, one), at(7, 9, 1), at(0, 0, pi-1)} {
			for _, v := range wantVertices(placed{s, place}) {
				rows = append(rows, row[aimed, bool]{aimed{s, place, v}, true})
			}
		}
	}
	check(t, "ContainsPoint", containsPoint, wantContainsPoint, rows, aimsAt(api.Polygon))
}

// P12.3: every shape contains what is truly in it and nothing else, up to the rounding of the vertices, at angles that are no quarter turns as well.
func TestContainsPointIsTrueUnderRotations(t *testing.T) {
	const rounding = 3
	inside, outside := map[api.ShapeKind]int{}, map[api.ShapeKind]int{}
	for _, a := range aims() {
		if wantValidate(a.s) != api.OK || !isValid(a.t) || max(a.v.X, -a.v.X, a.v.Y, -a.v.Y) > most {
			continue
		}
		depth, got := trueDepth(a), containsPoint(a)
		if depth > rounding && !got || depth < -rounding && got {
			t.Fatalf("ContainsPoint(%v) = %v, but the point lies %f deep", a, got, depth)
		}
		if a.t.Angle%quarter == 0 || math.Abs(depth) > 12 {
			continue
		}
		if got {
			inside[a.s.Kind]++
		} else {
			outside[a.s.Kind]++
		}
	}
	for kind := api.Circle; kind <= api.Polygon; kind++ {
		if inside[kind] < 1000 || outside[kind] < 1000 {
			t.Errorf("of kind %d only %d points near the edge lie inside and %d outside", kind, inside[kind], outside[kind])
		}
	}
}

func isValid(t api.Transform) bool {
	return max(t.Position.X, t.Position.Y) <= world && min(t.Position.X, t.Position.Y) >= -world && -pi <= t.Angle && t.Angle < pi
}

// P12.3
func TestSupport(t *testing.T) {
	o, place := at(0, 0, 0), at(10*one, -5*one, slant)
	check(t, "Support", support, wantSupport, []row[aimed, api.Vec]{
		// A circle: its center plus the radius along the direction.
		{aimed{disc(), o, vec(1, 0)}, vec(one, 0)},
		{aimed{disc(), o, vec(0, -5*one)}, vec(0, -one)},
		{aimed{disc(), o, vec(3*one, 4*one)}, vec(39322, 52429)},
		{aimed{disc(), o, vec(-3, -4)}, vec(-39322, -52429)},
		{aimed{circle(half, 0, 0), o, vec(3*one, 4*one)}, vec(19661, 26215)},
		{aimed{wheel(), o, vec(-1, 0)}, vec(0, half)},
		{aimed{wheel(), place, vec(1, 0)}, vec(695745+one, -266541)},
		{aimed{wheel(), place, vec(3*one, 4*one)}, vec(695745+39322, -266541+52429)},
		// The length of (1, 1) is rounded to 1.
		{aimed{disc(), o, vec(1, 1)}, vec(one, one)},
		{aimed{disc(), o, vec(one, one)}, vec(46341, 46341)},
		// A capsule: the end that lies farther.
		{aimed{pill(), o, vec(1, 0)}, vec(5*one, 0)},
		{aimed{pill(), o, vec(-1, 0)}, vec(-one, 0)},
		{aimed{pill(), o, vec(3*one, -4*one)}, vec(4*one+39322, -52429)},
		{aimed{pill(), o, vec(-1, one)}, vec(-1, one)},
		{aimed{bar(), place, vec(3*one, 4*one)}, vec(736129+19661, -205403+26215)},
		{aimed{bar(), place, vec(-3*one, -4*one)}, vec(598597-19661, -360437-26215)},
		// A polygon: a vertex, without any radius.
		{aimed{box(), o, vec(1, 1)}, vec(one, one)},
		{aimed{box(), o, vec(-1, 1)}, vec(0, one)},
		{aimed{box(), o, vec(7*one, -1)}, vec(one, 0)},
		{aimed{wedge(), place, vec(-2, 1)}, vec(622603, -270917)},
		{aimed{wedge(), place, vec(0, -one)}, vec(631354, -417200)},
		{aimed{wedge(), place, vec(one, 0)}, vec(801643, -318929)},
		// At right angles to an edge or to the axis: the first of the two vertices.
		{aimed{pill(), o, vec(0, one)}, vec(0, one)},
		{aimed{pill(), o, vec(0, -one)}, vec(0, -one)},
		{aimed{capsule(one, 4*one, 0, 0, 0), o, vec(0, one)}, vec(4*one, one)},
		{aimed{pill(), at(0, 0, quarter), vec(one, 0)}, vec(one, 0)},
		{aimed{capsule(one, 3*one, 0, 0, 4*one), o, vec(4*one, 3*one)}, vec(3*one+52429, 39322)},
		{aimed{bar(), place, vec(155034, -137532)}, vec(598597+24513, -360437-21746)},
		{aimed{box(), o, vec(0, -1)}, vec(0, 0)},
		{aimed{box(), o, vec(1, 0)}, vec(one, 0)},
		{aimed{box(), o, vec(0, 1)}, vec(one, one)},
		{aimed{box(), o, vec(-1, 0)}, vec(0, 0)},
		{aimed{octagon(), o, vec(1, -1)}, vec(2*one, 0)},
		{aimed{octagon(), o, vec(-1, -1)}, vec(one, 0)},
		{aimed{wedge(), place, vec(98271, -170289)}, vec(631354, -417200)},
		{aimed{wedge(), place, vec(48012, 179040)}, vec(801643, -318929)},
		// The zero direction: the first vertex, without the radius.
		{aimed{disc(), o, vec(0, 0)}, vec(0, 0)},
		{aimed{wheel(), place, vec(0, 0)}, vec(695745, -266541)},
		{aimed{pill(), o, vec(0, 0)}, vec(0, 0)},
		{aimed{bar(), place, vec(0, 0)}, vec(598597, -360437)},
		{aimed{box(), o, vec(0, 0)}, vec(0, 0)},
		{aimed{wedge(), place, vec(0, 0)}, vec(631354, -417200)},
		// Directions are saturated first. A length beyond MaxValue is saturated as well, so that (1, 1) is found for the largest ones.
		{aimed{disc(), o, vec(high, 0)}, vec(one, 0)},
		{aimed{disc(), o, vec(0, low)}, vec(0, -one)},
		{aimed{disc(), o, vec(most, 0)}, vec(one, 0)},
		{aimed{disc(), o, vec(high, low)}, vec(one, -one)},
		{aimed{disc(), o, vec(1<<32, 1<<32)}, vec(one, one)},
		{aimed{pill(), o, vec(low, 1<<62)}, vec(-one, one)},
		{aimed{box(), o, vec(high, low)}, vec(one, 0)},
		{aimed{box(), o, vec(low, low)}, vec(0, 0)},
		// The sum is saturated.
		{aimed{disc(), at(most, most, 0), vec(1, 0)}, vec(most, most)},
		{aimed{disc(), at(most, most, 0), vec(-1, 0)}, vec(most-one, most)},
		{aimed{pill(), at(most-one, -most, 0), vec(-1, -one)}, vec(most-one-1, -most)},
		{aimed{disc(), at(low, high, 0), vec(3*one, 4*one)}, vec(39322-most, most)},
	}, aims())
}

// P12.2, P12.3: along the axes of the plane, the support lies on the side of the box, whatever the transform is.
func TestSupportReachesTheBounds(t *testing.T) {
	for _, p := range placedShapes() {
		box := bounds(p)
		for _, k := range []int{1, 77, 3 * one, high} {
			right, left := support(aimed{p.s, p.t, vec(k, 0)}), support(aimed{p.s, p.t, vec(-k, 0)})
			up, down := support(aimed{p.s, p.t, vec(0, k)}), support(aimed{p.s, p.t, vec(0, -k)})
			if right.X != box.Max.X || left.X != box.Min.X || up.Y != box.Max.Y || down.Y != box.Min.Y {
				t.Fatalf("of %v: the bounds are %v, the supports %v, %v, %v, %v", p, box, left, down, right, up)
			}
		}
	}
}

// P12.3: no contained point lies farther in a direction than the support, up to the rounding.
func TestSupportIsFarthest(t *testing.T) {
	dice, count := newDice(5), 0
	for _, p := range validPlaced() {
		turn := dice.source.Float64() * 2 * math.Pi
		d := point{math.Cos(turn), math.Sin(turn)}
		s := support(aimed{p.s, p.t, vec(int(d.x*1000*one), int(d.y*1000*one))})
		if depth := trueDepth(aimed{p.s, p.t, s}); math.Abs(depth) > 8 {
			t.Fatalf("Support(%v) = %v lies %f deep", p, s, depth)
		}
		for range 5 {
			v := dice.atTheEdge(p)
			if !containsPoint(aimed{p.s, p.t, v}) {
				continue
			}
			count++
			if ahead := float64(v.X-s.X)*d.x + float64(v.Y-s.Y)*d.y; ahead > 20 {
				t.Fatalf("%v contains %v, which lies %f beyond the support %v", p, v, ahead, s)
			}
		}
	}
	if count < 10000 {
		t.Errorf("only %d points were tried", count)
	}
}

// P12.2: wherever a shape is turned to, it stays within its bounding radius.
func TestShapesStayWithinTheBoundingRadius(t *testing.T) {
	count := 0
	for _, a := range aims() {
		if wantValidate(a.s) != api.OK || !isValid(a.t) || !containsPoint(a) {
			continue
		}
		count++
		// Rotations are a little longer or shorter than One.
		r := angle.Rot(a.t.Angle)
		longer := math.Hypot(float64(r.Cos), float64(r.Sin)) / one
		way := math.Hypot(float64(a.v.X-a.t.Position.X), float64(a.v.Y-a.t.Position.Y))
		if radius := shape.BoundingRadius(a.s); way > float64(radius)*max(longer, 1)+3 {
			t.Fatalf("%v contains a point at %f, but its BoundingRadius is %d", a, way, radius)
		}
	}
	if count < 10000 {
		t.Errorf("only %d points were tried", count)
	}
}

// P12.4
func TestContainedPointsLieInTheBounds(t *testing.T) {
	inside, near := map[api.ShapeKind]int{}, map[api.ShapeKind]int{}
	for _, a := range aims() {
		if wantValidate(a.s) != api.OK || !isValid(a.t) || !containsPoint(a) {
			continue
		}
		b := bounds(placed{a.s, a.t})
		margin := min(a.v.X-b.Min.X, b.Max.X-a.v.X, a.v.Y-b.Min.Y, b.Max.Y-a.v.Y)
		if margin < -2 {
			t.Fatalf("%v is contained, but it lies %d beyond the bounds %v", a, -margin, b)
		}
		inside[a.s.Kind]++
		if margin < 20 {
			near[a.s.Kind]++
		}
	}
	for kind := api.Circle; kind <= api.Polygon; kind++ {
		if inside[kind] < 5000 || near[kind] < 40 {
			t.Errorf("of kind %d only %d points are contained, %d of them near the bounds", kind, inside[kind], near[kind])
		}
	}
}

// P12.4: all points around the farthest ones along the axes.
func TestContainedPointsNearTheSupportLieInTheBounds(t *testing.T) {
	inside := 0
	for _, p := range append(validPlaced()[:2000], turned(valid())...) {
		b := bounds(p)
		for _, d := range path(1, 0, 0, 1, -1, 0, 0, -1) {
			s := support(aimed{p.s, p.t, d})
			for x := -4; x <= 4; x++ {
				for y := -4; y <= 4; y++ {
					v := plus(s, vec(x, y))
					if !containsPoint(aimed{p.s, p.t, v}) {
						continue
					}
					inside++
					if v.X < b.Min.X-2 || v.Y < b.Min.Y-2 || v.X > b.Max.X+2 || v.Y > b.Max.Y+2 {
						t.Fatalf("%v contains %v, but its bounds are %v", p, v, b)
					}
				}
			}
		}
	}
	if inside < 100000 {
		t.Errorf("only %d points are contained", inside)
	}
}

// turned are the shapes at many angles, up to the limits of the world.
func turned(list []api.Shape) []placed {
	var all []placed
	for _, s := range list {
		for _, angle := range []int{-pi, 1 - pi, -one, -1, 0, 1, slant, quarter / 2, one, quarter - 1, quarter, quarter + 1, 3 * one, pi - 1} {
			for _, position := range path(0, 0, world, world, -world, 1, 5*one, -world) {
				all = append(all, placed{s, api.Transform{Position: position, Angle: angle}})
			}
		}
	}
	return all
}

// P12.1, P12.2, P12.3: the shapes stay as they are, and so does the room behind their vertices.
func TestShapesStayAsTheyAre(t *testing.T) {
	list := valid()
	for _, r := range faults() {
		list = append(list, r.args)
	}
	for _, s := range list {
		whole := append(slices.Clone(s.Vertices), path(1, 2, 3, 4)...)
		before := slices.Clone(whole)
		s.Vertices = whole[:len(whole)-2]
		place := at(one, -3*one, slant)
		shape.Validate(s)
		shape.Vertices(s, place)
		shape.Bounds(s, place)
		shape.ContainsPoint(s, place, vec(one, 0))
		shape.Support(s, place, vec(-3, 5))
		shape.BoundingRadius(s)
		shape.Equal(s, shape.Clone(s))
		if !slices.Equal(whole, before) {
			t.Errorf("the vertices are %v now, they were %v", whole, before)
		}
	}
}

// P12.2: the core shares no memory with the shape, even where it is the same list.
func TestVerticesAreNewMemory(t *testing.T) {
	for _, s := range valid() {
		before := slices.Clone(s.Vertices)
		core := shape.Vertices(s, at(0, 0, 0))
		if !reflect.DeepEqual(core, before) {
			t.Errorf("Vertices(%v) = %v at no transform", s, core)
		}
		room := core[:cap(core)]
		for i := range room {
			room[i] = vec(77, 88)
		}
		if !slices.Equal(s.Vertices, before) {
			t.Errorf("a change of the core turned %v into %v", before, s.Vertices)
		}
		if again := shape.Vertices(s, at(0, 0, 0)); !slices.Equal(again, before) {
			t.Errorf("Vertices(%v) = %v, and %v before", s, again, before)
		}
	}
}
