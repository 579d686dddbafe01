package raycast_test

import (
	"math"
	"slices"
	"testing"

	"carom/api"
	"carom/raycast"
	"carom/sat"
	"carom/shape"
)

// checkSamples holds a function against its oracle and tells how many samples were hit at the start, on the way, at the end, and not at all.
func checkSamples[T any](t *testing.T, function, oracle func(T) hit, samples []T) {
	t.Helper()
	counts := map[string]int{}
	for _, args := range samples {
		got, want := function(args), oracle(args)
		if got != want {
			t.Fatalf("the cast of %v = %v, want %v", args, got, want)
		}
		counts[outcome(got)]++
	}
	for _, name := range []string{"start", "way", "end", "none"} {
		if counts[name] < 500 {
			t.Errorf("only %d samples have the outcome %s", counts[name], name)
		}
	}
}

func outcome(h hit) string {
	switch {
	case !h.found:
		return "none"
	case h.at == 0:
		return "start"
	case h.at == one:
		return "end"
	}
	return "way"
}

// P18.1
func TestCastCircleOfSamples(t *testing.T) {
	checkSamples(t, castCircle, wantCircle, disks())
}

// P18.2
func TestCastPolygonOfSamples(t *testing.T) {
	checkSamples(t, castPolygon, wantPolygon, outlines())
}

// P18.3
func TestCastOfSamples(t *testing.T) {
	checkSamples(t, cast, wantCast, targets())
}

// P18.2: the samples have every outcome.
func TestOutlinesHaveEveryOutcome(t *testing.T) {
	counts := map[string]int{}
	count := func(name string, is bool) {
		if is {
			counts[name]++
		}
	}
	for _, o := range outlines() {
		entries, exits, ok := crossings(o)
		got := castPolygon(o)
		count("beside an edge", !ok)
		if !ok {
			continue
		}
		later := func(a, b crossing) int { return a.at - b.at }
		count("no entry", len(entries) == 0 && len(o.vertices) > 2)
		count("no exit", len(exits) == 0 && got.found)
		if len(entries) == 0 || len(exits) == 0 {
			continue
		}
		entry, exit := slices.MaxFunc(entries, later), slices.MinFunc(exits, later)
		count("entry before the start", entry.at < 0 && exit.at >= 0)
		count("entry beyond the end", entry.at > one && exit.at >= entry.at)
		count("exit before the entry", 0 <= entry.at && entry.at <= one && exit.at < entry.at)
		count("entry equal to the exit", got.found && exit.at == entry.at)
		count("equal entries", got.found && slices.ContainsFunc(entries, func(c crossing) bool {
			return c.at == entry.at && c.normal != entry.normal
		}))
	}
	for _, name := range []string{"beside an edge", "no entry", "no exit", "entry before the start", "entry beyond the end", "exit before the entry", "entry equal to the exit", "equal entries"} {
		if counts[name] < 5 {
			t.Errorf("only %d samples have the outcome %s", counts[name], name)
		}
	}
}

// P18.3: the samples have every outcome, and of equal fractions the first one is taken.
func TestTargetsHaveEveryOutcome(t *testing.T) {
	type result struct {
		kind api.ShapeKind
		name string
	}
	counts := map[result]int{}
	for _, a := range meetings() {
		got := cast(a)
		name := outcome(got)
		if got == inside {
			name = "inside"
		}
		counts[result{a.s.Kind, name}]++
		if a.s.Kind != api.Capsule || !got.found || got == inside {
			continue
		}
		core := shape.Vertices(a.s, a.t)
		parts := wantParts(core[0], core[1], a.s.Radius, a.ray)
		i := slices.Index(parts, got)
		counts[result{api.Capsule, []string{"first cap", "second cap", "side"}[i]}]++
		for _, other := range parts[i+1:] {
			if other.found && other.at == got.at && other.normal != got.normal {
				counts[result{api.Capsule, "equal"}]++
			}
		}
	}
	for _, kind := range []api.ShapeKind{api.Circle, api.Capsule, api.Polygon} {
		names := []string{"inside", "start", "way", "end", "none"}
		if kind == api.Capsule {
			names = append(names, "first cap", "second cap", "side", "equal")
		}
		for _, name := range names {
			if counts[result{kind, name}] < 20 {
				t.Errorf("only %d samples of kind %d have the outcome %s", counts[result{kind, name}], kind, name)
			}
		}
	}
}

// checkConsequences holds an answer against P18.4.
func checkConsequences(t *testing.T, args any, got hit) {
	t.Helper()
	if got.at < 0 || got.at > one {
		t.Fatalf("the cast of %v = %v, but fractions lie in [0, One]", args, got)
	}
	if !got.found && got != none {
		t.Fatalf("the cast of %v = %v, but there is no intersection", args, got)
	}
}

// P18.4
func TestFractionsLieInTheRay(t *testing.T) {
	for _, c := range disks() {
		checkConsequences(t, c, castCircle(c))
	}
	for _, o := range outlines() {
		checkConsequences(t, o, castPolygon(o))
	}
	for _, a := range targets() {
		checkConsequences(t, a, cast(a))
	}
}

// P18.4, P18.3: a ray that starts in a shape enters it there, at no normal, and only such a ray does.
func TestRaysThatStartInAShape(t *testing.T) {
	count := 0
	for _, a := range targets() {
		got, contains := cast(a), shape.ContainsPoint(a.s, a.t, a.from)
		if contains && got != inside || !contains && got == inside {
			t.Fatalf("Cast%v = %v, but the shape contains the start: %v", a, got, contains)
		}
		if contains {
			count++
		}
	}
	if count < 1000 {
		t.Errorf("only %d rays start in a shape", count)
	}
}

// P18.3: outside of them, circles and polygons are met as their cores are.
func TestCastIsThatOfTheCore(t *testing.T) {
	for _, a := range targets() {
		core := shape.Vertices(a.s, a.t)
		if core == nil || shape.ContainsPoint(a.s, a.t, a.from) {
			continue
		}
		got := cast(a)
		switch a.s.Kind {
		case api.Circle:
			if want := castCircle(disk{core[0], a.s.Radius, a.ray}); got != want {
				t.Fatalf("Cast%v = %v, but CastCircle = %v", a, got, want)
			}
		case api.Polygon:
			if want := castPolygon(outline{core, a.ray}); got != want {
				t.Fatalf("Cast%v = %v, but CastPolygon = %v", a, got, want)
			}
		}
	}
}

// P18.3: a hit lies on the border of the shape, and the normal leads out of it there, against the ray. Before the hit the ray is outside, and a ray that hits nothing stays outside. All this is true up to rounding.
func TestHitsAreTrue(t *testing.T) {
	counts := map[bool]int{}
	for _, a := range meetings() {
		core := shape.Vertices(a.s, a.t)
		tolerance := a.tolerance(core)
		// A ray that starts on the border may count as one that starts inside.
		if tolerance > fourth || a.trueDepth(core, 0) > -tolerance {
			continue
		}
		got, end := cast(a), 1.0
		counts[got.found]++
		if got.found {
			end = float64(got.at) / one
			if off := a.trueDepth(core, end); math.Abs(off) > tolerance {
				t.Fatalf("Cast%v = %v, but that point lies %v deep in the shape", a, got, off)
			}
			// The normal at a grazed corner or cap may be that of an edge beside it.
			if a.greatestDepth(core, 1) > tolerance {
				checkNormal(t, a, core, got)
			}
		}
		if off := a.greatestDepth(core, end); off > tolerance {
			t.Fatalf("Cast%v = %v, but the ray is %v deep in the shape before", a, got, off)
		}
	}
	if counts[true] < 5000 || counts[false] < 5000 {
		t.Errorf("%d rays meet the shape and %d do not", counts[true], counts[false])
	}
}

// checkNormal holds the normal of a hit against the shape: a polygon reaches no farther in that direction than the hit does, and against it the core of a round shape lies at the distance of the radius.
func checkNormal(t *testing.T, a aimed, core []api.Vec, got hit) {
	t.Helper()
	normal := pointOf(got.normal)
	normal = point{normal.x / one, normal.y / one}
	if length := normal.length(); math.Abs(length-1) > 0.01 {
		t.Fatalf("Cast%v = %v, but the normal has the length %v", a, got, length)
	}
	place, d := a.truePoint(float64(got.at)/one), pointOf(minus(a.to, a.from))
	off := -trueDepth(core, 0, point{place.x - normal.x*float64(a.s.Radius), place.y - normal.y*float64(a.s.Radius)})
	if a.s.Kind == api.Polygon {
		off = math.Inf(-1)
		for _, v := range core {
			off = max(off, normal.dot(pointOf(v).minus(place)))
		}
	}
	if math.Abs(off) > 2*a.tolerance(core) {
		t.Fatalf("Cast%v = %v, but the normal is off by %v there", a, got, off)
	}
	if along := normal.dot(d) / d.length(); along > 0.1 {
		t.Fatalf("Cast%v = %v, but the ray leads %v along the normal", a, got, along)
	}
}

// turned is v turned by a right angle to the left about the origin.
func turned(v api.Vec) api.Vec {
	return vec(-v.Y, v.X)
}

func (r ray) turned() ray {
	return ray{turned(r.from), turned(r.to)}
}

func (r ray) moved(shift api.Vec) ray {
	return ray{plus(r.from, shift), plus(r.to, shift)}
}

// P18.3: moving the shape and the ray changes nothing, and turning both by a right angle turns the normal alone, as rounding treats all four directions alike.
func TestCastStaysTheSame(t *testing.T) {
	count, shift := 0, vec(123456, -98765)
	for _, a := range meetings() {
		got := cast(a)
		moved := aimed{a.s, at(a.t.Position.X+shift.X, a.t.Position.Y+shift.Y, a.t.Angle), a.ray.moved(shift)}
		if other := cast(moved); other != got {
			t.Fatalf("Cast%v = %v, but moved by %v %v", a, got, shift, other)
		}
		if a.t.Angle%quarter != 0 {
			continue
		}
		count++
		position := turned(a.t.Position)
		want := hit{got.at, turned(got.normal), got.found}
		if other := cast(aimed{a.s, at(position.X, position.Y, a.t.Angle+quarter), a.ray.turned()}); other != want {
			t.Fatalf("Cast%v = %v, but turned %v", a, got, other)
		}
	}
	if count < 1000 {
		t.Errorf("only %d shapes were turned", count)
	}
}

// P18.2: the list may begin with any vertex; only among equal entries the first edge changes.
func TestCastPolygonFromAnyVertex(t *testing.T) {
	for _, o := range outlines() {
		got := castPolygon(o)
		for i := range o.vertices {
			other := castPolygon(outline{shifted(o.vertices, i), o.ray})
			if other.at != got.at || other.found != got.found {
				t.Fatalf("CastPolygon%v = %v, but from vertex %d %v", o, got, i, other)
			}
		}
	}
}

// P18.2: the normal is that of an edge.
func TestCastPolygonHitsAnEdge(t *testing.T) {
	for _, o := range outlines() {
		got, isEdge := castPolygon(o), false
		for i := range o.vertices {
			isEdge = isEdge || sat.EdgeNormal(o.vertices, i) == got.normal
		}
		if got.found && !isEdge {
			t.Fatalf("CastPolygon%v = %v, but no edge has this normal", o, got)
		}
	}
}

// P18.1, P18.2, P18.3: vertices stay as they are, with what lies behind the length of their list.
func TestVerticesStayAsTheyAre(t *testing.T) {
	behind := path(5, 6, 7, 8)
	for _, s := range append(invalidShapes(), disc(one, 0, 0), bar(), block(), api.Shape{Kind: api.Polygon, Vertices: ring()}) {
		list := slices.Concat(s.Vertices, behind)
		before, count := slices.Clone(list), len(s.Vertices)
		s.Vertices = list[:count]
		for _, r := range []ray{whole(-9, 1, 9, 1), whole(0, 0, 9, 9), whole(-9, 9, 9, 9), line(low, high, 0, 0)} {
			raycast.Cast(s, at(5, 6, 7), r.from, r.to)
			raycast.CastPolygon(s.Vertices, r.from, r.to)
			if !slices.Equal(list, before) {
				t.Fatalf("the cast of %v at %v changes the vertices to %v", r, before, list)
			}
		}
	}
}
