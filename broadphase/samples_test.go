package broadphase_test

import (
	"slices"
	"testing"

	"carom/api"
	"carom/broadphase"
	"carom/bvh"
)

// P22.1, P22.4: all filters with small categories, masks and groups, in both orders.
func TestAllSmallFilters(t *testing.T) {
	var all []api.Fixture
	for i := range 4 * 4 * 5 {
		all = append(all, filter(i%4, i/4%4, i/16-2))
	}
	for _, a := range all {
		for _, b := range all {
			if got, want := broadphase.ShouldCollide(a, b), shouldCollideOf(a, b); got != want || got != broadphase.ShouldCollide(b, a) {
				t.Fatalf("ShouldCollide(%v, %v) = %v, want %v", a, b, got, want)
			}
		}
	}
}

// P22.1, P22.4: random filters from the whole range of int.
func TestRandomFilters(t *testing.T) {
	d := newDice(1)
	number := func() int {
		return int(d.source.Uint64()) >> d.source.Intn(64)
	}
	for range 20000 {
		// With few bits each, the sides often differ.
		a, b := filter(number()&number(), number()&number(), d.number(2)), filter(number()&number(), number()&number(), d.number(2))
		if d.source.Intn(4) == 0 {
			a.Group = number()
			b.Group = a.Group
		}
		if got, want := broadphase.ShouldCollide(a, b), shouldCollideOf(a, b); got != want || got != broadphase.ShouldCollide(b, a) {
			t.Fatalf("ShouldCollide(%v, %v) = %v, want %v", a, b, got, want)
		}
	}
}

// P22.1: random bodies near the origin, in the whole world and beyond it.
func TestRandomProxies(t *testing.T) {
	d := newDice(2)
	for range 1000 {
		for _, limit := range []int{2 * one, 100 * one, api.WorldLimit, most, 1 << 40} {
			bodies := d.bodies(d.source.Intn(4), 5, limit)
			if got, want := broadphase.Proxies(bodies), proxiesOf(bodies); !slices.Equal(got, want) {
				t.Fatalf("Proxies(%v) = %v, want %v", bodies, got, want)
			}
		}
	}
}

// P22.2: random joints between few bodies.
func TestRandomConnected(t *testing.T) {
	d := newDice(3)
	for range 2000 {
		joints := d.joints(d.source.Intn(8), 6)
		for a := -3; a < 5; a++ {
			for b := -3; b < 5; b++ {
				if got, want := broadphase.Connected(joints, a, b), connectedOf(joints, a, b); got != want {
					t.Fatalf("Connected(%v, %d, %d) = %v", joints, a, b, got)
				}
			}
		}
	}
}

// P22.2: random bodies with random joints against the search over all pairs of fixtures.
func TestRandomPairs(t *testing.T) {
	d := newDice(4)
	for range 600 {
		for _, limit := range []int{2 * one, 5 * one, 12 * one} {
			count := d.source.Intn(14)
			ids := 2 + d.source.Intn(3*count+2)
			checkPairs(t, d.bodies(count, ids, limit), d.joints(d.source.Intn(6), ids))
		}
	}
}

// crowd is a full world with fixtures that all overlap.
func crowd() []api.Body {
	var bodies []api.Body
	for i := range api.MaxBodies {
		b := body(i*13%api.MaxBodies+1, i, -i)
		for range api.MaxFixtures {
			b.Fixtures = append(b.Fixtures, fixture(circle(api.Vec{}, one)))
		}
		bodies = append(bodies, b)
	}
	return bodies
}

// P22.2, P22.3: the keys of a full world are valid.
func TestPairsOfAFullWorld(t *testing.T) {
	var joints []api.Joint
	for i := range api.MaxJoints {
		joints = append(joints, joint(i+1, (i+1)%api.MaxBodies+1))
	}
	bodies := crowd()
	all := 32 * 31 / 2 * 4 * 4
	if got := checkPairs(t, bodies, nil); len(got) != all || !broadphase.ValidKeys(got) {
		t.Errorf("there are %d pairs, want %d", len(got), all)
	}
	if got := checkPairs(t, bodies, joints); len(got) != all-32*4*4 || !broadphase.ValidKeys(got) {
		t.Errorf("there are %d pairs of bodies that are not connected, want %d", len(got), all-32*4*4)
	}
}

// P22.2: more bodies and fixtures than a world or a bounding volume hierarchy holds.
func TestPairsOfManyBodies(t *testing.T) {
	count := 5000
	var bodies []api.Body
	var want []api.PairKey
	for i := range count {
		// Each ball overlaps the one before and the one after it alone.
		place := i * 37 % count
		bodies = append(bodies, ball(place, (2*place-count)*one, 0))
		if i > 0 {
			want = append(want, key(i-1, 0, i, 0))
		}
	}
	if got := broadphase.FindPairs(bodies, nil); !slices.Equal(got, want) {
		t.Errorf("there are %d pairs, want %d", len(got), len(want))
	}
}

// P22.3: random keys against comparisons of all of them.
func TestRandomKeys(t *testing.T) {
	d := newDice(5)
	valid := 0
	for range 40000 {
		keys := d.keys(d.source.Intn(5))
		if d.source.Intn(2) == 0 {
			sorted(keys)
		}
		want := validKeysOf(keys)
		if got := broadphase.ValidKeys(keys); got != want {
			t.Fatalf("ValidKeys(%v) = %v", keys, got)
		}
		if want && len(keys) > 1 {
			valid++
		}
		for _, a := range keys {
			for _, b := range keys {
				if got := broadphase.Less(a, b); got != lessOf(a, b) {
					t.Fatalf("Less(%v, %v) = %v", a, b, got)
				}
			}
		}
	}
	if valid < 500 {
		t.Errorf("only %d lists of several keys were valid", valid)
	}
}

// P22.4: the pairs that a bounding volume hierarchy finds, without those that are filtered or connected.
func TestPairsOfBoundingVolumeHierarchy(t *testing.T) {
	d := newDice(6)
	found := 0
	for range 600 {
		var bodies []api.Body
		for _, id := range d.source.Perm(2 + d.source.Intn(12)) {
			bodies = append(bodies, d.body(3*id-9, 4*one))
		}
		joints := d.joints(d.source.Intn(6), 20)
		got := checkPairs(t, bodies, joints)
		if want := pairsOfTree(t, bodies, joints); !slices.Equal(got, want) {
			t.Fatalf("FindPairs(%v, %v) = %v, want %v", bodies, joints, got, want)
		}
		found += len(got)
	}
	if found < 1000 {
		t.Errorf("only %d pairs were found", found)
	}
}

// pairsOfTree filters the pairs of a tree of all proxy boxes.
func pairsOfTree(t *testing.T, bodies []api.Body, joints []api.Joint) []api.PairKey {
	t.Helper()
	byID := map[int]api.Body{}
	for _, b := range bodies {
		byID[b.ID] = b
	}
	proxies := broadphase.Proxies(bodies)
	tree := bvh.New()
	for i, p := range proxies {
		if err := tree.Insert(i, p.Bounds); err != api.OK {
			t.Fatalf("the box of %v gives the error %d", p, err)
		}
	}
	var keys []api.PairKey
	for _, pair := range tree.Pairs() {
		p, q := proxies[pair[0]], proxies[pair[1]]
		a, b := byID[p.Body], byID[q.Body]
		isMoving := a.Kind == api.Dynamic || b.Kind == api.Dynamic
		if a.ID != b.ID && isMoving && broadphase.ShouldCollide(a.Fixtures[p.Fixture], b.Fixtures[q.Fixture]) && !broadphase.Connected(joints, b.ID, a.ID) {
			keys = append(keys, keyOf(a.ID, p.Fixture, b.ID, q.Fixture))
		}
	}
	return sorted(keys)
}

// P22.2, R6: the order of the bodies and of the joints does not matter.
func TestPairsInAnyOrder(t *testing.T) {
	d := newDice(7)
	for range 200 {
		var bodies []api.Body
		for id := range 10 {
			bodies = append(bodies, d.body(id, 4*one))
		}
		joints := d.joints(6, 10)
		want := broadphase.FindPairs(bodies, joints)
		for range 5 {
			d.source.Shuffle(len(bodies), func(i, j int) { bodies[i], bodies[j] = bodies[j], bodies[i] })
			d.source.Shuffle(len(joints), func(i, j int) { joints[i], joints[j] = joints[j], joints[i] })
			if got := broadphase.FindPairs(bodies, joints); !slices.Equal(got, want) {
				t.Fatalf("in another order FindPairs(%v, %v) = %v, want %v", bodies, joints, got, want)
			}
		}
	}
}
