package toi_test

import (
	"testing"

	"carom/api"
	"carom/distance"
)

// outcome tells how the advancement of a sample ends.
func outcome(m motion, got impact) string {
	switch {
	case got == none:
		return "none"
	case got.at == 0:
		return "start"
	case m.isBrokenOff():
		return "broken off"
	}
	return "way"
}

// P19.2
func TestTimeOfImpactOfSamples(t *testing.T) {
	for _, m := range motions() {
		got, want := timeOfImpact(m), wantImpact(m)
		if got != want {
			t.Fatalf("TimeOfImpact%v = %v, want %v", m, got, want)
		}
		if got.at < 0 || got.at > one {
			t.Fatalf("TimeOfImpact%v = %v, but times lie in [0, One]", m, got)
		}
		if other := timeOfImpact(m.exchanged()); other != got {
			t.Fatalf("TimeOfImpact%v = %v, but exchanged %v", m, got, other)
		}
	}
}

// P19.2: the samples have every outcome, for every two kinds.
func TestSamplesHaveEveryOutcome(t *testing.T) {
	type result struct {
		kinds [2]api.ShapeKind
		name  string
	}
	counts := map[result]int{}
	for _, m := range meetings() {
		counts[result{[2]api.ShapeKind{m.a.s.Kind, m.b.s.Kind}, outcome(m, timeOfImpact(m))}]++
	}
	for _, a := range []api.ShapeKind{api.Circle, api.Capsule, api.Polygon} {
		for _, b := range []api.ShapeKind{api.Circle, api.Capsule, api.Polygon} {
			for _, name := range []string{"none", "start", "broken off", "way"} {
				if r := (result{[2]api.ShapeKind{a, b}, name}); counts[r] < 20 {
					t.Errorf("only %d samples have the outcome %v", counts[r], r)
				}
			}
		}
	}
}

// P19.2: at the time of impact the shapes are at most the slop apart, unless the advancement was broken off.
func TestShapesAreCloseAtTheImpact(t *testing.T) {
	count := 0
	for _, m := range motions() {
		got := timeOfImpact(m)
		if !got.found || m.isBrokenOff() {
			continue
		}
		count++
		if gap := m.gap(got.at); gap > slop {
			t.Fatalf("TimeOfImpact%v = %v, but then the separation is %d", m, got, gap)
		}
	}
	if count < 2000 {
		t.Errorf("only %d samples meet", count)
	}
}

// P19.3: shapes that are at most the slop apart at the start meet at once, and no others.
func TestImpactAtTheStart(t *testing.T) {
	count := 0
	for _, m := range motions() {
		got, gap := timeOfImpact(m), distance.Separation(m.a.s, m.a.from, m.b.s, m.b.from)
		if (gap <= slop) != (got == impact{0, true}) {
			t.Fatalf("TimeOfImpact%v = %v, but the separation at the start is %d", m, got, gap)
		}
		if gap <= slop {
			count++
		}
	}
	if count < 500 {
		t.Errorf("only %d samples meet at the start", count)
	}
}

// checkApart holds an outcome against P19.3: before the impact the separation is positive, at all multiples of the stride and shortly before the impact.
func checkApart(t *testing.T, m motion, got impact, stride int) {
	t.Helper()
	end := one + 1
	if got.found {
		end = got.at
	}
	for time := 0; time < end; time++ {
		if time%stride != 0 && time < end-16 {
			continue
		}
		if m.gap(time) <= 0 {
			t.Fatalf("TimeOfImpact%v = %v, but the shapes meet at the time %d", m, got, time)
		}
	}
}

// P19.3
func TestShapesAreApartBeforeTheImpact(t *testing.T) {
	counts := map[string]int{}
	for i, m := range meetings() {
		if !m.isGentle() {
			continue
		}
		got := timeOfImpact(m)
		counts[outcome(m, got)]++
		// The strides differ, so that the times do.
		checkApart(t, m, got, 1501+i%1000)
	}
	for _, name := range []string{"none", "start", "broken off", "way"} {
		if counts[name] < 300 {
			t.Errorf("only %d gentle samples have the outcome %s", counts[name], name)
		}
	}
}

// P19.3: the same at every time, for some of the samples.
func TestShapesAreApartAtEveryTimeBeforeTheImpact(t *testing.T) {
	for _, m := range []motion{
		{still(ball(), 0, 0), moves(ball(), 6*one, 0, 0, 0)},
		{still(pebble(), 0, 0), moves(pebble(), -60*one, fourth, 67*one, 0)},
		{still(thin(0, -8, 0, 8), 0, 0), moves(pebble(), -64*one, 0, 63*one, 0)},
		{turns(arm(), 0, 0, 0, quarter), still(ball(), 0, 6*one)},
		{moves(bar(), -6*one, 0, 6*one, 0), moves(bar(), 6*one, half+600, -6*one, half+600)},
		{still(plate(), 0, 0), moves(pebble(), -60*one, one, 60*one, -one)},
		{travels(diamond(), at(0, 0, 0), at(3*one, 0, quarter)), travels(wedge(), at(6*one, 0, 0), at(one, 0, -quarter))},
	} {
		if !m.isGentle() {
			t.Fatalf("the motion %v is not gentle", m)
		}
		checkApart(t, m, timeOfImpact(m), 1)
	}
}

// P19.2, P19.3: circles meet when they truly do. Their separation is off by some units through the rounding of their ways.
func TestImpactsOfCirclesAreTrue(t *testing.T) {
	counts := map[string]int{}
	for _, m := range circlings() {
		if !m.isGentle() {
			continue
		}
		got, c := timeOfImpact(m), circlingOf(m)
		name := outcome(m, got)
		counts[name]++
		time := float64(got.at) / one
		switch {
		case name == "none" && c.least(1) <= 0:
			t.Fatalf("TimeOfImpact%v = %v, but the circles come as close as %v", m, got, c.least(1))
		case got.at > 0 && c.least(time) <= 0:
			t.Fatalf("TimeOfImpact%v = %v, but before the circles come as close as %v", m, got, c.least(time))
		case (name == "start" || name == "way") && c.gap(time) > slop+4:
			t.Fatalf("TimeOfImpact%v = %v, but then the circles are %v apart", m, got, c.gap(time))
		}
	}
	for _, name := range []string{"none", "start", "broken off", "way"} {
		if counts[name] < 100 {
			t.Errorf("only %d gentle circles have the outcome %s", counts[name], name)
		}
	}
}

// quarterTurned is the travel turned by a right angle about the origin.
func quarterTurned(m travel) travel {
	turned := func(t api.Transform) api.Transform {
		return at(-t.Position.Y, t.Position.X, t.Angle+quarter)
	}
	return travel{m.s, turned(m.from), turned(m.to)}
}

// carried is the travel moved by shift.
func carried(m travel, shift api.Vec) travel {
	moved := func(t api.Transform) api.Transform {
		return api.Transform{Position: plus(t.Position, shift), Angle: t.Angle}
	}
	return travel{m.s, moved(m.from), moved(m.to)}
}

// P19.2: moving both ways, or turning both by a right angle, changes nothing, as rounding treats all four directions alike.
func TestTimeOfImpactStaysTheSame(t *testing.T) {
	shift := vec(123456, -98765)
	for _, m := range meetings() {
		want := timeOfImpact(m)
		if got := timeOfImpact(motion{carried(m.a, shift), carried(m.b, shift)}); got != want {
			t.Fatalf("TimeOfImpact%v = %v, but moved by %v %v", m, want, shift, got)
		}
		if got := timeOfImpact(motion{quarterTurned(m.a), quarterTurned(m.b)}); got != want {
			t.Fatalf("TimeOfImpact%v = %v, but turned %v", m, want, got)
		}
	}
}
