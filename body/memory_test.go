package body_test

import (
	"reflect"
	"slices"
	"testing"

	"carom/api"
	"carom/body"
)

// guarded is a body with more fixtures and vertices behind the ends of its lists, and a copy of all of them.
type guarded struct {
	b      api.Body
	before []api.Fixture
}

func guard(b api.Body) guarded {
	b = copyOf(b)
	b.Fixtures = append(b.Fixtures, fixture(circle(one, 77, 77), one))
	for i, f := range b.Fixtures {
		count := len(f.Shape.Vertices)
		b.Fixtures[i].Shape.Vertices = append(f.Shape.Vertices, vec(77, 77))[:count]
	}
	b.Fixtures = b.Fixtures[:len(b.Fixtures)-1]
	return guarded{b, unfolded(b)}
}

// unfolded is a copy of the fixtures of b, with what is behind the ends of its lists.
func unfolded(b api.Body) []api.Fixture {
	fixtures := slices.Clone(b.Fixtures[:cap(b.Fixtures)])
	for i, f := range fixtures {
		fixtures[i].Shape.Vertices = slices.Clone(f.Shape.Vertices[:cap(f.Shape.Vertices)])
	}
	return fixtures
}

// check tells whether anything of the body was changed, be it behind the end of a list.
func (g guarded) check(t *testing.T, name string) {
	t.Helper()
	if after := unfolded(g.b); !reflect.DeepEqual(after, g.before) {
		t.Fatalf("%s made the fixtures %v %v", name, g.before, after)
	}
}

// spoil changes all that a body holds in its lists, and what is behind their ends.
func spoil(b api.Body) {
	fixtures := b.Fixtures[:cap(b.Fixtures)]
	for i := range fixtures {
		vertices := fixtures[i].Shape.Vertices
		for k := range vertices[:cap(vertices)] {
			vertices[:cap(vertices)][k] = vec(99, 99)
		}
		fixtures[i] = api.Fixture{Density: 99}
	}
}

// P23.3, P23.4, P23.5: no function changes the body, neither by itself nor by what is done to its result.
func TestBodiesStayAsTheyAre(t *testing.T) {
	for _, b := range anyBodies(16)[:2000] {
		g, h := guard(b), guard(b)
		body.Validate(g.b)
		body.MassData(g.b)
		body.WorldCenter(g.b)
		body.SolverBody(g.b)
		body.VelocityAt(g.b, vec(one, one))
		body.Bounds(g.b)
		body.FixtureAt(g.b, vec(one, one))
		for i := range g.b.Fixtures {
			body.ValidateFixture(g.b.Fixtures[i])
		}
		if !body.Equal(g.b, h.b) {
			t.Fatalf("%v is not equal to itself", b)
		}
		g.check(t, "asking")
		for _, result := range []func() api.Body{
			func() api.Body { return body.ApplyImpulse(g.b, vec(one, one), vec(one, 0)) },
			func() api.Body { return body.ApplyAngularImpulse(g.b, one) },
			func() api.Body { return body.ClampVelocity(g.b) },
			func() api.Body { return body.Clone(g.b) },
		} {
			first, second := result(), result()
			g.check(t, "a function")
			spoil(first)
			g.check(t, "changing a result")
			if !reflect.DeepEqual(copyOf(second).Fixtures, copyOf(h.b).Fixtures) {
				t.Fatalf("changing a result made another one %v, want the fixtures of %v", second, h.b)
			}
		}
	}
}

// P23.4, P23.5: the fixtures of a result share no vertices with each other.
func TestFixturesOfResultsAreApart(t *testing.T) {
	shared := fixture(circle(one, 5, 6), one)
	for _, kind := range kinds() {
		b := ofKind(kind, dynamic())
		b.Fixtures = []api.Fixture{shared, shared}
		for _, got := range []api.Body{body.Clone(b), body.ClampVelocity(b), body.ApplyImpulse(b, vec(0, 0), vec(1, 1)), body.ApplyAngularImpulse(b, 1)} {
			got.Fixtures[0].Shape.Vertices[0] = vec(9, 9)
			if got.Fixtures[1].Shape.Vertices[0] != vec(5, 6) {
				t.Errorf("a vertex of %v is in two fixtures", got)
			}
		}
	}
}
