package broadphase_test

import (
	"reflect"
	"slices"
	"testing"

	"carom/api"
	"carom/broadphase"
)

// guarded is a list with more items behind its length, and a copy of all of them.
type guarded[T any] struct {
	list, all, before []T
}

func guard[T any](list []T, copyOf func(T) T, behind ...T) guarded[T] {
	all := slices.Concat(list, behind)
	var before []T
	for _, item := range all {
		before = append(before, copyOf(item))
	}
	return guarded[T]{all[:len(list)], all, before}
}

func (g guarded[T]) check(t *testing.T, name string) {
	t.Helper()
	if !reflect.DeepEqual(g.all, g.before) {
		t.Fatalf("%s made the argument %v, with what is behind it, %v", name, g.before[:len(g.list)], g.all)
	}
}

func same[T any](item T) T {
	return item
}

// copyOfBody copies the lists of a body too, with what is behind them.
func copyOfBody(b api.Body) api.Body {
	fixtures := slices.Clone(b.Fixtures[:cap(b.Fixtures)])
	for i, f := range fixtures {
		fixtures[i].Shape.Vertices = slices.Clone(f.Shape.Vertices[:cap(f.Shape.Vertices)])[:len(f.Shape.Vertices)]
	}
	b.Fixtures = fixtures[:len(b.Fixtures)]
	return b
}

// spoil changes all items of a result, and those behind its length.
func spoil[T any](list []T, item T) {
	for i := range list[:cap(list)] {
		list[:cap(list)][i] = item
	}
}

// P22.1, P22.2: no function changes the bodies and the joints, neither by itself nor by what is done to its result.
func TestBodiesAndJointsStayAsTheyAre(t *testing.T) {
	d := newDice(8)
	for range 50 {
		bodies := guard(d.bodies(8, 7, 3*one), copyOfBody, ball(99, 0, 0), ball(1, 0, 0))
		joints := guard(d.joints(4, 7), same, joint(0, 1), joint(1, 2))
		proxies, again := broadphase.Proxies(bodies.list), broadphase.Proxies(bodies.list)
		keys, keysAgain := broadphase.FindPairs(bodies.list, joints.list), broadphase.FindPairs(bodies.list, joints.list)
		broadphase.Connected(joints.list, 1, 2)
		bodies.check(t, "Proxies or FindPairs")
		joints.check(t, "Connected or FindPairs")
		spoil(proxies, broadphase.Proxy{Body: 77})
		spoil(keys, key(77, 77, 77, 77))
		bodies.check(t, "changing a result")
		joints.check(t, "changing a result")
		if want := proxiesOf(bodies.list); !slices.Equal(again, want) {
			t.Errorf("changing a result of Proxies made another one %v, want %v", again, want)
		}
		if want := pairsOf(bodies.list, joints.list); !slices.Equal(keysAgain, want) {
			t.Errorf("changing a result of FindPairs made another one %v, want %v", keysAgain, want)
		}
	}
}

// P22.2: what lies behind the bodies, the fixtures and the joints does not matter.
func TestWhatIsBehindTheLists(t *testing.T) {
	bodies := []api.Body{ball(1, 0, 0), body(2, 0, 0, tile(), tile()), ball(3, 0, 0)}
	bodies[1].Fixtures = bodies[1].Fixtures[:1]
	joints := []api.Joint{open(1, 2), joint(1, 2)}
	want := []api.PairKey{key(1, 0, 2, 0)}
	if got := broadphase.FindPairs(bodies[:2], joints[:1]); !slices.Equal(got, want) {
		t.Errorf("FindPairs = %v, want %v", got, want)
	}
	if len(broadphase.Proxies(bodies[:2])) != 2 || broadphase.Connected(joints[:1], 1, 2) {
		t.Error("Proxies or Connected reads behind the length")
	}
}

// P22.3: no function of keys changes them.
func TestKeysStayAsTheyAre(t *testing.T) {
	for _, keys := range [][]api.PairKey{nil, {key(1, 0, 2, 0), key(1, 0, 3, 0)}, {key(2, 0, 3, 0), key(1, 0, 2, 0)}, {key(1, 0, 2, 0), key(1, 0, 2, 0)}} {
		g := guard(keys, same, key(0, 0, 1, 0), key(5, 5, 5, 5))
		want := validKeysOf(keys)
		if got := broadphase.ValidKeys(g.list); got != want {
			t.Errorf("ValidKeys(%v) = %v", keys, got)
		}
		g.check(t, "ValidKeys")
	}
}
