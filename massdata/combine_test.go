package massdata_test

import (
	"slices"
	"testing"

	"carom/api"
	"carom/massdata"
)

type parts = []api.MassData

func inverse(t turned) inverses {
	mass, inertia := massdata.Inverse(t.m, t.kind, t.fixed)
	return inverses{mass, inertia}
}

// ofInertia is a part that has nothing but an inertia.
func ofInertia(inertia int) api.MassData {
	return data(0, 0, 0, inertia)
}

// repeated is a list of the same part.
func repeated(part api.MassData, count int) parts {
	return slices.Repeat(parts{part}, count)
}

// steps are parts of ascending masses.
func steps(count int) parts {
	var list parts
	for k := 1; k <= count; k++ {
		list = append(list, data(k, 10*k, -k*k, k))
	}
	return list
}

// permuted are all orders of the list.
func permuted(list parts) []parts {
	if len(list) < 2 {
		return []parts{list}
	}
	var orders []parts
	for i, first := range list {
		for _, rest := range permuted(slices.Delete(slices.Clone(list), i, i+1)) {
			orders = append(orders, append(parts{first}, rest...))
		}
	}
	return orders
}

// P13.2
func TestCombine(t *testing.T) {
	check(t, "Combine", massdata.Combine, wantCombine, []row[parts, api.MassData]{
		{nil, data(0, 0, 0, 0)},
		{parts{}, data(0, 0, 0, 0)},
		{parts{{}}, data(0, 0, 0, 0)},
		// One part is itself, whatever its inertia.
		{parts{data(one, 5, -7, 9)}, data(one, 5, -7, 9)},
		{parts{data(one, 5, -7, -9)}, data(one, 5, -7, -9)},
		{parts{data(1, limit, -limit, 0)}, data(1, limit, -limit, 0)},
		{parts{data(most, most, -most, most)}, data(most, most, -most, most)},
		// Equal and unequal weights.
		{parts{data(one, -one, 0, 7), data(one, one, 0, 9)}, data(2*one, 0, 0, 16+2*one)},
		{parts{data(3*one, one, 2*one, 5), data(one, -3*one, 6*one, 11)}, data(4*one, 0, 3*one, 16+24*one)},
		// A center that is rounded, halves away from zero.
		{parts{data(1, 0, 0, 0), data(2, 1, -1, 0)}, data(3, 1, -1, 0)},
		{parts{data(1, 0, 0, 0), data(1, 1, -1, 0)}, data(2, 1, -1, 0)},
		{parts{data(one, 0, 0, 0), data(one, 101, -333, 0)}, data(2*one, 51, -167, 0)},
		// The square of the way to the center is rounded once: it is 0.4999, 0.505 and 1.38 units.
		{parts{data(one, -181, 0, 0), data(one, 181, 0, 0)}, data(2*one, 0, 0, 0)},
		{parts{data(one, -182, 0, 0), data(one, 182, 0, 0)}, data(2*one, 0, 0, 2)},
		{parts{data(one, -182, -240, 0), data(one, 182, 240, 0)}, data(2*one, 0, 0, 2)},
		// A part without mass keeps its inertia, but has no place.
		{parts{data(0, 100*one, one, 5), data(one, 7, 8, 6)}, data(one, 7, 8, 11)},
		{parts{data(one, 7, 8, 6), data(0, low, high, 5)}, data(one, 7, 8, 11)},
		// No mass at all.
		{parts{data(0, 5, -7, 9)}, data(0, 0, 0, 9)},
		{parts{data(0, one, one, 5), data(0, -one, 7, 6)}, data(0, 0, 0, 11)},
		{repeated(data(0, limit, limit, -3), 8), data(0, 0, 0, -24)},
	}, partLists())
}

// P13.2: 8 parts are the most.
func TestCombineCountsTheParts(t *testing.T) {
	check(t, "Combine", massdata.Combine, wantCombine, []row[parts, api.MassData]{
		{steps(7), data(28, 50, -28, 28)},
		{steps(8), data(36, 57, -36, 36)},
		{steps(9), data(0, 0, 0, 0)},
		{repeated(data(one, one, one, one), 8), data(8*one, one, one, 8*one)},
		{repeated(data(one, one, one, one), 9), data(0, 0, 0, 0)},
		{repeated(api.MassData{}, 8), data(0, 0, 0, 0)},
		{repeated(ofInertia(5), 8), data(0, 0, 0, 40)},
		{repeated(ofInertia(5), 9), data(0, 0, 0, 0)},
		{repeated(data(one, one, one, one), 70000), data(0, 0, 0, 0)},
	}, nil)
}

// P13.2: one negative mass spoils all, at whatever place.
func TestCombineOfNegativeMasses(t *testing.T) {
	for _, mass := range []int{-1, -one, -most, -far, low} {
		for count := range 8 {
			for i := range count + 1 {
				list := slices.Insert(steps(count), i, data(mass, one, one, one))
				if got := massdata.Combine(list); got != (api.MassData{}) {
					t.Errorf("Combine(%v) = %v", list, got)
				}
			}
		}
	}
}

// P13.2: sums that are saturated, and numbers that are not.
func TestCombineSaturates(t *testing.T) {
	check(t, "Combine", massdata.Combine, wantCombine, []row[parts, api.MassData]{
		// The mass, while the center still has the exact weights.
		{parts{data(most-1, one, one, 1), data(1, one, one, 2)}, data(most, one, one, 3)},
		{parts{data(most, one, one, 1), data(1, one, one, 2)}, data(most, one, one, 3)},
		{parts{data(most, 0, 0, 0), data(most, 1, -9, 0)}, data(most, 1, -5, 0)},
		{parts{data(most, 0, 0, 0), data(most, 0, 0, 0), data(most, 3*one, -6*one, 0)}, data(most, one, -2*one, most)},
		{repeated(data(most, most, -most, 0), 8), data(most, most, -most, 0)},
		// Masses, centers and inertias beyond the range.
		{parts{data(far, one, 0, 0)}, data(most, one, 0, 0)},
		{parts{data(far, 0, 0, 0), data(most, 5, 3, 0)}, data(most, 3, 2, 0)},
		{parts{data(one, far, -far, 0), data(one, most, -most, 0)}, data(2*one, most, -most, 0)},
		{parts{data(1, high, low, 0), data(1, 0, 0, 0)}, data(2, 1<<28, -1<<28, 16384)},
		{parts{data(high, high, low, high)}, data(most, most, -most, most)},
		{repeated(data(high, high, low, high), 8), data(most, most, -most, most)},
		{repeated(data(high, low, high, low), 8), data(most, -most, most, -most)},
		{parts{data(most, high, low, 0), data(most, -5, 5, 0)}, data(most, 268435453, -268435453, most)},
		{parts{data(one, 0, 0, far), data(one, 0, 0, -3)}, data(2*one, 0, 0, most-3)},
		{parts{data(one, 0, 0, low), data(one, 0, 0, 3)}, data(2*one, 0, 0, 3-most)},
		{parts{data(one, 0, 0, low), data(one, 0, 0, high)}, data(2*one, 0, 0, 0)},
		// The way to the center and its square: only a mass of 1 shows how far they are saturated.
		{parts{data(most, most, 0, 0), data(1, -most, 0, 0)}, data(most, most-2, 0, 8192)},
		{parts{data(one, most, 0, 0), data(1, -most, 0, 0)}, data(one+1, 536854527, 0, 12288)},
		{parts{data(one, 0, 0, 0), data(1, 200*one, 0, 0)}, data(one+1, 200, 0, 8193)},
		{parts{data(one, most, 0, 0), data(one, -most, 0, 0)}, data(2*one, 0, 0, most)},
	}, nil)
}

// P13.2: inertias are added in order, and each sum is saturated.
func TestCombineAddsInertiasInOrder(t *testing.T) {
	check(t, "Combine", massdata.Combine, wantCombine, []row[parts, api.MassData]{
		{parts{ofInertia(most), ofInertia(10), ofInertia(-5)}, ofInertia(most - 5)},
		{parts{ofInertia(most), ofInertia(-5), ofInertia(10)}, ofInertia(most)},
		{parts{ofInertia(-5), ofInertia(most), ofInertia(10)}, ofInertia(most)},
		{parts{ofInertia(10), ofInertia(most), ofInertia(-5)}, ofInertia(most - 5)},
		{parts{ofInertia(-most), ofInertia(-10), ofInertia(7)}, ofInertia(7 - most)},
		{parts{ofInertia(7), ofInertia(-most), ofInertia(-10)}, ofInertia(-most)},
		// The inertia of a part comes before that of its mass, and both before those of the next part.
		{parts{ofInertia(-most), data(one, -one, 0, -9), data(one, one, 0, 0)}, data(2*one, 0, 0, 2*one-most)},
		{parts{ofInertia(-most), data(one, -one, 0, 0), data(one, one, 0, -9)}, data(2*one, 0, 0, 2*one-9-most)},
		{parts{data(one, -one, 0, -most), data(one, one, 0, -9)}, data(2*one, 0, 0, 2*one-9-most)},
		{parts{ofInertia(most), data(one, -one, 0, -9), data(one, one, 0, -one)}, data(2*one, 0, 0, most)},
		{parts{data(one, -one, 0, most), data(one, one, 0, -5*one), data(0, 0, 0, -3)}, data(2*one, 0, 0, most-4*one-3)},
	}, nil)
}

// P13.2: the order of the parts changes neither the mass nor the center, whose sums are exact.
func TestCombineInAnyOrder(t *testing.T) {
	for _, list := range []parts{
		{data(1, 1, 0, 0), data(1, 1, 1, 0), data(1, 0, -1, 0), data(3, 1, 1, 0), data(5, -1, 2, 0)},
		{data(most, most, -most, 0), data(1, -most, 3, 0), data(most, -most, most, 0), data(2, 1, 1, 0)},
		{data(one, 101, 7, most), data(one, 102, 9, -most), data(3, 5, 5, 5), data(far, -9, 3, -5), data(0, far, far, 2)},
	} {
		first := massdata.Combine(list)
		for _, order := range permuted(list) {
			got := massdata.Combine(order)
			if got.Mass != first.Mass || got.Center != first.Center {
				t.Errorf("Combine(%v) = %v, but in another order %v", list, first, got)
			}
			if want := wantCombine(order); got != want {
				t.Errorf("Combine(%v) = %v, want %v", order, got, want)
			}
		}
	}
}

func solid(s api.Shape, density int) api.Fixture {
	return api.Fixture{Shape: s, Density: density}
}

func sensor(s api.Shape, density int) api.Fixture {
	return api.Fixture{Shape: s, Density: density, Sensor: true}
}

// P13.2
func TestOfFixtures(t *testing.T) {
	d, b, x, w := solid(disc(), one), solid(bar(), one), solid(box(), one), solid(wedge(), one)
	rod := poly(-3*one, -half, 3*one, -half, 3*one, half, -3*one, half)
	check(t, "OfFixtures", massdata.OfFixtures, wantOfFixtures, []row[[]api.Fixture, api.MassData]{
		{nil, data(0, 0, 0, 0)},
		{[]api.Fixture{}, data(0, 0, 0, 0)},
		{[]api.Fixture{d}, data(pi, 0, 0, pi/2)},
		{[]api.Fixture{b}, data(258715, half, half, 247934)},
		{[]api.Fixture{x}, data(one, half, half, 10923)},
		{[]api.Fixture{d, b}, data(464603, 18247, 18247, 408203)},
		{[]api.Fixture{b, d}, data(464603, 18247, 18247, 408203)},
		{[]api.Fixture{solid(box(), half), solid(moved(box(), one, 0), densest)}, data(294912, 91022, half, 78281)},
		{[]api.Fixture{solid(circle(one, -3*one, 0), one), solid(circle(one, 3*one, 0), one), solid(rod, 2*one)}, data(1198208, 0, 0, 6336700)},
		// MaxFixtures and one more.
		{[]api.Fixture{d, b, x, w}, data(726747, 20530, 8710, 603612)},
		{[]api.Fixture{x, x, x, x}, data(4*one, half, half, 43692)},
		{[]api.Fixture{x, x, x, x, x}, data(0, 0, 0, 0)},
		{make([]api.Fixture, 70000), data(0, 0, 0, 0)},
		// Sensors have no mass.
		{[]api.Fixture{sensor(disc(), one), x}, data(one, half, half, 10923)},
		{[]api.Fixture{x, sensor(disc(), one)}, data(one, half, half, 10923)},
		{[]api.Fixture{d, sensor(whole(), densest), sensor(wedge(), one), b}, data(464603, 18247, 18247, 408203)},
		{[]api.Fixture{sensor(box(), one)}, data(0, 0, 0, 0)},
		{[]api.Fixture{sensor(box(), one), sensor(disc(), one), sensor(bar(), one), sensor(wedge(), one)}, data(0, 0, 0, 0)},
		// But they are counted.
		{[]api.Fixture{x, x, x, sensor(disc(), one)}, data(3*one, half, half, 32769)},
		{[]api.Fixture{x, x, x, x, sensor(disc(), one)}, data(0, 0, 0, 0)},
		{[]api.Fixture{sensor(disc(), one), x, sensor(disc(), one), sensor(disc(), one), sensor(disc(), one)}, data(0, 0, 0, 0)},
		// Without density there is no mass, and so no center.
		{[]api.Fixture{solid(moved(box(), one, one), 0)}, data(0, 0, 0, 0)},
		{[]api.Fixture{solid(wedge(), 0), x}, data(one, half, half, 10923)},
		// The mass and the inertia are saturated.
		{[]api.Fixture{solid(whole(), densest), solid(circle(one, limit, 0), one)}, data(1<<28+pi, 804, 0, most)},
		{[]api.Fixture{solid(whole(), densest), solid(whole(), densest)}, data(most, 0, 0, most)},
	}, fixtureLists())
}

// P13.2: an invalid shape or density has the zero value as its mass data, so that the other fixtures count alone.
func TestOfFixturesOfInvalidFixtures(t *testing.T) {
	var wrong []api.Fixture
	for _, s := range invalid() {
		wrong = append(wrong, solid(s, one), sensor(s, one))
	}
	for _, density := range []int{-1, densest + 1, low, high} {
		wrong = append(wrong, solid(disc(), density), sensor(disc(), density))
	}
	want := data(one, half, half, 10923)
	for _, f := range wrong {
		if got := massdata.OfFixtures([]api.Fixture{f}); got != (api.MassData{}) {
			t.Errorf("OfFixtures of %v = %v", f, got)
		}
		for _, list := range [][]api.Fixture{{f, solid(box(), one)}, {solid(box(), one), f}, {f, f, solid(box(), one), f}} {
			if got := massdata.OfFixtures(list); got != want {
				t.Errorf("OfFixtures(%v) = %v, want %v", list, got, want)
			}
		}
	}
}

// P13.2: what is not the shape, the density or the sensor does not matter, be it valid or not.
func TestOfFixturesOfAnyMaterial(t *testing.T) {
	want := data(one, half, half, 10923)
	for _, x := range []int{0, 1, one, -1, most, low, high} {
		f := api.Fixture{Shape: box(), Density: one, Friction: x, Restitution: -x, Category: x, Mask: -x, Group: x}
		if got := massdata.OfFixtures([]api.Fixture{f}); got != want {
			t.Errorf("OfFixtures of %v = %v, want %v", f, got, want)
		}
	}
}

func dynamic(mass, inertia int) turned {
	return turned{data(mass, 5, -6, inertia), api.Dynamic, false}
}

// P13.3
func TestInverse(t *testing.T) {
	rows := []row[turned, inverses]{
		{dynamic(2*one, 4*one), inverses{half, half / 2}},
		{dynamic(one, one), inverses{one, one}},
		{dynamic(3*one, 7*one), inverses{21845, 9362}},
		{dynamic(half, half), inverses{2 * one, 2 * one}},
		// Rounded: One squared is 1 more than 65535 * 65537.
		{dynamic(one-1, one+1), inverses{one + 1, one - 1}},
		{dynamic(100, 10), inverses{42949673, 429496730}},
		// Saturated up to 8.
		{dynamic(9, 9), inverses{477218588, 477218588}},
		{dynamic(8, 8), inverses{most, most}},
		{dynamic(7, 2), inverses{most, most}},
		{dynamic(1, 1), inverses{most, most}},
		// Below 1, where the two differ.
		{dynamic(0, 0), inverses{one, 0}},
		{dynamic(-1, -1), inverses{one, 0}},
		{dynamic(-one, -one), inverses{one, 0}},
		{dynamic(low, low), inverses{one, 0}},
		{dynamic(0, one), inverses{one, one}},
		{dynamic(-1, 2*one), inverses{one, half}},
		{dynamic(2*one, 0), inverses{half, 0}},
		{dynamic(one, -one), inverses{one, 0}},
		// The largest, and beyond.
		{dynamic(most-1, most), inverses{8, 8}},
		{dynamic(most+1, far), inverses{8, 8}},
		{dynamic(high, high), inverses{8, 8}},
	}
	var more []row[turned, inverses]
	for _, r := range rows {
		// A fixed rotation leaves the mass alone, and a body that is not dynamic has neither.
		still := r
		still.args.fixed, still.want.inertia = true, 0
		more = append(more, r, still)
		for _, kind := range []api.BodyKind{api.Static, api.Kinematic, 0, -1, 4, low, high, 1<<32 + 3} {
			more = append(more, row[turned, inverses]{turned{r.args.m, kind, false}, inverses{0, 0}}, row[turned, inverses]{turned{r.args.m, kind, true}, inverses{0, 0}})
		}
	}
	check(t, "Inverse", inverse, wantInverse, more, anyTurned())
}

// P13.4
func TestMassDoesNotDecreaseWithDensity(t *testing.T) {
	for _, f := range validFilled() {
		f.density /= 2
		mass, doubled := massdata.OfShape(f.s, f.density).Mass, massdata.OfShape(f.s, 2*f.density).Mass
		if mass < 0 || doubled < mass {
			t.Fatalf("the mass of %v is %d, at twice the density %d", f, mass, doubled)
		}
	}
}

// P13.4: no part is heavier than the whole, as far as its mass is not beyond the range.
func TestCombinedMassIsNotLess(t *testing.T) {
	for _, list := range partLists() {
		if len(list) > 8 || slices.ContainsFunc(list, func(p api.MassData) bool { return p.Mass < 0 }) {
			continue
		}
		combined := massdata.Combine(list).Mass
		for _, p := range list {
			if combined < saturated(p.Mass) {
				t.Fatalf("the mass of Combine(%v) is %d", list, combined)
			}
		}
	}
	for _, list := range fixtureLists() {
		combined := massdata.OfFixtures(list).Mass
		for _, f := range list {
			if mass := massdata.OfShape(f.Shape, f.Density).Mass; len(list) <= 4 && !f.Sensor && combined < mass {
				t.Fatalf("the mass of OfFixtures(%v) is %d, that of %v is %d", list, combined, f, mass)
			}
		}
	}
}
