package toi_test

import (
	"testing"

	"carom/toi"
)

// motion holds the arguments of TimeOfImpact.
type motion struct{ a, b travel }

// impact holds the results of TimeOfImpact.
type impact struct {
	at    int
	found bool
}

// none is the outcome where nothing meets.
var none = impact{}

// row is a row of a table: the arguments and the outcome that the chapter asks for.
type row struct {
	args motion
	want impact
}

// exchanged is the motion with the shapes in the other order.
func (m motion) exchanged() motion {
	return motion{m.b, m.a}
}

func timeOfImpact(m motion) impact {
	time, found := toi.TimeOfImpact(m.a.s, m.a.from, m.a.to, m.b.s, m.b.from, m.b.to)
	return impact{time, found}
}

// check holds TimeOfImpact and the oracle against the rows, and against the rows with the shapes exchanged.
func check(t *testing.T, rows []row) {
	t.Helper()
	for _, r := range rows {
		for _, m := range []motion{r.args, r.args.exchanged()} {
			if got := timeOfImpact(m); got != r.want {
				t.Errorf("TimeOfImpact%v = %v, want %v", m, got, r.want)
			}
			if expected := wantImpact(m); expected != r.want {
				t.Errorf("TimeOfImpact%v: the oracle says %v, the row %v", m, expected, r.want)
			}
			if m.isGentle() {
				checkApart(t, m, r.want, 1009)
			}
		}
	}
}

// P19.2, with the example of the chapter.
func TestTimeOfImpactOfCircles(t *testing.T) {
	check(t, []row{
		// The example.
		{motion{still(ball(), 0, 0), moves(ball(), 6*one, 0, 0, 0)}, impact{43647, true}},
		// Head on, also where both move, one runs into the other, and in other directions.
		{motion{moves(ball(), -6*one, 0, 0, 0), moves(ball(), 6*one, 0, 0, 0)}, impact{54586, true}},
		{motion{moves(ball(), 0, 0, 10*one, 0), moves(ball(), 4*one, 0, 5*one, 0)}, impact{14517, true}},
		{motion{still(ball(), 0, 0), moves(disc(half, 0, 0), 0, -9*one, 0, 3*one)}, impact{40919, true}},
		{motion{moves(disc(3*one, 0, 0), 0, 7*one, 0, -7*one), still(ball(), 0, 0)}, impact{14015, true}},
		{motion{still(disc(greatest, 0, 0), 0, 0), moves(disc(greatest, 0, 0), 0, 18*one, 0, 15*one)}, impact{43604, true}},
		// At a slant.
		{motion{still(ball(), 0, 0), moves(ball(), 6*one, 8*one, 0, 0)}, impact{52402, true}},
		{motion{moves(ball(), -3*one, -4*one, 0, 0), moves(disc(2*one, 0, 0), 6*one, 8*one, one, one)}, impact{57821, true}},
		{motion{still(ball(), 0, 0), moves(disc(half, 0, 0), 9*one, -3*one, -3*one, 2*one)}, impact{40963, true}},
		// In passing: not in the middle, touching in the middle of the way, which takes more than 40 steps, and too far away for it.
		{motion{still(ball(), 0, 0), moves(ball(), -6*one, one, 6*one, one)}, impact{23273, true}},
		{motion{still(ball(), 0, 0), moves(ball(), -6*one, 2*one, 6*one, 2*one)}, impact{31734, true}},
		{motion{still(ball(), 0, 0), moves(ball(), -6*one, 2*one+half, 6*one, 2*one+half)}, none},
		{motion{still(ball(), 0, 0), moves(ball(), -6*one, 3*one, 6*one, 3*one)}, none},
		// Stopping as they touch, and just before, where a step leads beyond the end even if the slop is reached there.
		{motion{still(ball(), 0, 0), moves(ball(), 6*one, 0, 2*one, 0)}, impact{65471, true}},
		{motion{still(ball(), 0, 0), moves(ball(), 6*one, 0, 2*one+300, 0)}, none},
		{motion{still(ball(), 0, 0), moves(ball(), 6*one, 0, 2*one+511, 0)}, none},
		{motion{still(ball(), 0, 0), moves(ball(), 6*one, 0, 2*one+513, 0)}, none},
		{motion{still(ball(), 0, 0), moves(ball(), 6*one, 0, 3*one, 0)}, none},
		// Moving apart.
		{motion{still(ball(), 0, 0), moves(ball(), 3*one, 0, 9*one, 0)}, none},
		{motion{moves(ball(), 0, 0, -9*one, 0), moves(ball(), 0, 3*one, 0, 9*one)}, none},
		// Passing each other, crossing each other's way at another time, and meeting where the ways cross.
		{motion{moves(ball(), -6*one, 0, 6*one, 0), moves(ball(), 6*one, 3*one, -6*one, 3*one)}, none},
		{motion{moves(ball(), -6*one, 0, 6*one, 0), moves(ball(), 0, -12*one, 0, 0)}, none},
		{motion{moves(ball(), -6*one, 0, 6*one, 0), moves(ball(), 0, -6*one, 0, 6*one)}, impact{25020, true}},
		{motion{moves(ball(), -6*one, 0, 6*one, 0), moves(ball(), 6*one, one, -6*one, one)}, impact{28016, true}},
		// Fast and small, meeting and passing.
		{motion{still(pebble(), 0, 0), moves(pebble(), -100*one, 0, 100*one, 0)}, impact{32745, true}},
		{motion{moves(pebble(), 0, 200*one, 0, -200*one), moves(pebble(), 200*one, 0, -200*one, 0)}, impact{32760, true}},
		{motion{still(pebble(), 0, 0), moves(pebble(), -100*one, fourth, 100*one, fourth)}, none},
		// Turning about an origin that is not the center.
		{motion{still(ball(), 0, 5*one), turns(disc(one, 5*one, 0), 0, 0, 0, quarter)}, impact{48660, true}},
		{motion{still(ball(), 0, 5*one), turns(disc(one, 5*one, 0), 0, 0, 0, -quarter)}, none},
		{motion{turns(disc(one, 5*one, 0), 0, 0, 0, quarter), turns(disc(one, 5*one, 0), 0, 0, 2*quarter, quarter)}, impact{57104, true}},
		{motion{turns(disc(one, 5*one, 0), 0, 0, 0, quarter), turns(disc(one, 5*one, 0), 0, 0, 2*quarter, 3*quarter)}, none},
		// Turning about the center takes time but changes nothing.
		{motion{still(ball(), 0, 0), travels(ball(), at(6*one, 0, 0), at(0, 0, quarter))}, impact{43628, true}},
	})
}

// P19.2
func TestTimeOfImpactOfCapsulesAndCircles(t *testing.T) {
	check(t, []row{
		// Head on beside the axis and beside an end.
		{motion{still(bar(), 0, 0), moves(ball(), half, 5*one, half, 0)}, impact{49055, true}},
		{motion{still(bar(), 0, 0), moves(ball(), 6*one, 0, 0, 0)}, impact{40879, true}},
		{motion{moves(bar(), -3*one, 0, 3*one, 0), moves(ball(), 4*one, 0, -4*one, 0)}, impact{22213, true}},
		// At a slant.
		{motion{still(bar(), 0, 0), moves(ball(), -5*one, 4*one, 3*one, -2*one)}, impact{30354, true}},
		{motion{moves(bar(), 0, 0, 4*one, 4*one), moves(ball(), 9*one, 7*one, one, 0)}, impact{37827, true}},
		// In passing, and too far away for it.
		{motion{still(bar(), 0, 0), moves(ball(), -6*one, 5*fourth, 6*one, 5*fourth)}, impact{26559, true}},
		{motion{still(bar(), 0, 0), moves(ball(), -6*one, 2*one, 6*one, 2*one)}, none},
		// Stopping before, moving apart, and passing each other.
		{motion{still(bar(), 0, 0), moves(ball(), 0, 5*one, 0, 5*fourth+513)}, none},
		{motion{still(bar(), 0, 0), moves(ball(), 0, 5*one, 0, 5*fourth+300)}, impact{65487, true}},
		{motion{still(bar(), 0, 0), moves(ball(), 0, 2*one, 7*one, 2*one)}, none},
		{motion{moves(bar(), -6*one, 0, 6*one, 0), moves(ball(), 6*one, 3*one, -6*one, 3*one)}, none},
		// A fast circle and a thin capsule.
		{motion{still(thin(0, -8, 0, 8), 0, 0), moves(pebble(), -128*one, 3*one, 127*one, -3*one)}, impact{32879, true}},
		{motion{still(thin(0, -8, 0, 8), 0, 0), moves(pebble(), 1000*one, 7*one, -1000*one, 7*one)}, impact{32766, true}},
		{motion{still(thin(0, -8, 0, 8), 0, 0), moves(pebble(), -100*one, 9*one, 100*one, 9*one)}, none},
		// The capsule turns to where the circle is: to the left, to the right, and by a half turn, which is one to the right.
		{motion{turns(arm(), 0, 0, 0, quarter), still(ball(), 0, 6*one)}, impact{56734, true}},
		{motion{turns(arm(), 0, 0, 0, -quarter), still(ball(), 0, 6*one)}, none},
		{motion{turns(arm(), 0, 0, 0, -quarter), still(ball(), 0, -6*one)}, impact{56734, true}},
		{motion{turns(arm(), 0, 0, 0, 2*quarter), still(ball(), 0, -6*one)}, impact{28366, true}},
		{motion{turns(arm(), 0, 0, 0, 2*quarter), still(ball(), 0, 6*one)}, none},
		// The shorter way around leads across the ends of the range of the angles.
		{motion{turns(arm(), 0, 0, 3*quarter/2, -3*quarter/2), still(ball(), -6*one, 0)}, impact{23966, true}},
		{motion{turns(arm(), 0, 0, 3*quarter/2, -3*quarter/2), still(ball(), 6*one, 0)}, none},
		{motion{turns(arm(), 0, 0, -3*quarter/2, 3*quarter/2), still(ball(), -6*one, 0)}, impact{23966, true}},
		// Moving and turning at once, and out of the way in time.
		{motion{travels(arm(), at(0, 0, 0), at(0, 4*one, quarter)), moves(ball(), 9*one, -3*one, -3*one, 9*one)}, impact{33710, true}},
		{motion{turns(arm(), 0, 0, 0, -quarter), moves(ball(), 6*one, 6*one, 6*one, 0)}, none},
	})
}

// P19.2
func TestTimeOfImpactOfCapsules(t *testing.T) {
	check(t, []row{
		// Head on: side to side, end to end, end to side.
		{motion{still(bar(), 0, 0), moves(bar(), 0, 4*one, 0, 0)}, impact{57231, true}},
		{motion{still(bar(), 0, 0), moves(bar(), 6*one, 0, 0, 0)}, impact{38154, true}},
		{motion{still(bar(), 0, 0), moves(whole(pill(half, 0, -1, 0, 1)), half, -7*one, half, 0)}, impact{49103, true}},
		// At a slant, crossing with no end in the other one.
		{motion{moves(thin(-8, 0, 8, 0), 0, 0, 3*one, 2*one), moves(thin(-9, -4, 9, 4), 0, 8*one, 0, 0)}, impact{33027, true}},
		{motion{still(thin(-16, -16, 16, 16), 0, 0), moves(thin(-9, 10, 8, -12), 20*one, -20*one, 0, 0)}, impact{34244, true}},
		// In passing, and too far away for it.
		{motion{still(bar(), 0, 0), moves(bar(), -6*one, half, 6*one, half)}, impact{21370, true}},
		{motion{still(bar(), 0, 0), moves(bar(), -6*one, one, 6*one, one)}, none},
		// Stopping before, moving apart, and passing each other.
		{motion{still(bar(), 0, 0), moves(bar(), 0, 4*one, 0, half+513)}, none},
		{motion{still(bar(), 0, 0), moves(bar(), 0, 4*one, 0, half+100)}, impact{65435, true}},
		{motion{moves(bar(), 0, 0, -one, -one), moves(bar(), 3*one, 0, 8*one, 8*one)}, none},
		{motion{moves(bar(), -6*one, 0, 6*one, 0), moves(bar(), 6*one, 2*one, -6*one, 2*one)}, none},
		// Fast and thin.
		{motion{still(thin(0, -8, 0, 8), 0, 0), moves(thin(0, -1, 0, 1), -120*one, 0, 130*one, 0)}, impact{31439, true}},
		{motion{still(pill(least, 0, 0, 4096, 0), 0, 0), moves(pill(least, 0, 0, 0, 4096), 0, 64*one, 0, -64*one)}, impact{32733, true}},
		// Turning: one, both, both away from each other.
		{motion{turns(arm(), 0, 0, 0, quarter), still(bar(), 0, 6*one)}, impact{55169, true}},
		{motion{turns(arm(), 0, 0, quarter/2, 0), turns(arm(), 12*one, 0, -2*quarter, 3*quarter/2)}, impact{20520, true}},
		{motion{turns(arm(), 0, 0, 0, quarter), turns(arm(), 12*one, one, -2*quarter, quarter)}, impact{5241, true}},
		{motion{turns(arm(), 0, 0, 0, -quarter), turns(arm(), 12*one, one, -2*quarter, quarter)}, none},
	})
}

// P19.2
func TestTimeOfImpactOfPolygonsAndCircles(t *testing.T) {
	check(t, []row{
		// Head on at an edge, and at a corner.
		{motion{still(block(), 0, 0), moves(ball(), 2*one, 9*one, 2*one, 0)}, impact{29098, true}},
		{motion{still(diamond(), 0, 0), moves(ball(), -7*one, 0, 0, 0)}, impact{46765, true}},
		{motion{moves(ring(), 0, 0, 5*one, 0), moves(ball(), 12*one, 3*one, 7*one, 3*one)}, impact{32735, true}},
		// At a slant.
		{motion{still(diamond(), 0, 0), moves(ball(), 7*one, 7*one, 0, 0)}, impact{54207, true}},
		{motion{moves(block(), 0, 0, one, -2*one), moves(disc(half, 0, 0), -5*one, 8*one, 3*one, 0)}, impact{42226, true}},
		// In passing, and too far away for it.
		{motion{still(block(), 0, 0), moves(ball(), -6*one, -one, 9*one, -one)}, impact{25680, true}},
		{motion{still(block(), 0, 0), moves(ball(), -6*one, 6*one, 9*one, 6*one)}, none},
		// Stopping before, moving apart, and passing each other.
		{motion{still(block(), 0, 0), moves(ball(), 9*one, 2*one, 5*one+513, 2*one)}, none},
		{motion{still(block(), 0, 0), moves(ball(), 9*one, 2*one, 5*one+250, 2*one)}, impact{65533, true}},
		{motion{moves(block(), 0, 0, -one, 0), moves(ball(), 6*one, 0, 9*one, 9*one)}, none},
		{motion{moves(block(), -9*one, 0, 9*one, 0), moves(ball(), 9*one, -2*one, -9*one, -2*one)}, none},
		// Fast and small against thin.
		{motion{still(plate(), 0, 0), moves(pebble(), -128*one, one, 127*one, -one)}, impact{32887, true}},
		{motion{still(plate(), 0, 0), moves(pebble(), 900*one, 7*one, -1000*one, -7*one)}, impact{31040, true}},
		{motion{moves(plate(), 100*one, 0, -100*one, 0), moves(pebble(), 0, -100*one, 0, 100*one)}, impact{32756, true}},
		// The polygon turns a corner into the circle, or away from it, or an edge to where the circle is.
		{motion{turns(block(), 0, 0, 0, -quarter/2), still(ball(), 13*half, 0)}, impact{57988, true}},
		{motion{turns(block(), 0, 0, 0, quarter/2), still(ball(), 13*half, 0)}, none},
		{motion{turns(plate(), 0, 0, 0, -quarter), still(ball(), 6*one, 0)}, impact{58060, true}},
		// Around a circle that is in no one's way.
		{motion{travels(wedge(), at(0, 0, 0), at(9*one, 0, quarter)), still(ball(), 5*one, 9*one)}, none},
	})
}

// P19.2
func TestTimeOfImpactOfPolygonsAndCapsules(t *testing.T) {
	check(t, []row{
		// Head on, with the side and with an end.
		{motion{still(block(), 0, 0), moves(bar(), 2*one, 9*one, 2*one, 4*one)}, impact{62198, true}},
		{motion{still(block(), 0, 0), moves(bar(), 10*one, 3*one, 4*one, 3*one)}, impact{51831, true}},
		{motion{moves(diamond(), 0, 0, 0, 5*one), moves(bar(), half, 8*one, half, 0)}, impact{33994, true}},
		// At a slant.
		{motion{still(wedge(), 0, 0), moves(bar(), 6*one, 8*one, 0, 0)}, impact{41951, true}},
		{motion{moves(ring(), 0, 0, one, one), moves(whole(pill(half, 0, 0, 3, 4)), 12*one, 5*one, 0, one)}, impact{27696, true}},
		// Crossing with no vertex in the other one.
		{motion{still(block(), 0, 0), moves(thin(-8, 2, 8, 2), 0, 9*one, 0, 0)}, impact{50694, true}},
		{motion{still(plate(), 0, 0), moves(thin(-8, 0, 8, 0), -9*one, 9*one, 0, 0)}, impact{7092, true}},
		// In passing, and too far away for it.
		{motion{still(block(), 0, 0), moves(bar(), -6*one, -fourth, 9*one, -fourth)}, impact{21578, true}},
		{motion{still(block(), 0, 0), moves(bar(), -6*one, -one, 9*one, -one)}, none},
		// Stopping before, moving apart, and passing each other.
		{motion{still(block(), 0, 0), moves(bar(), 2*one, 9*one, 2*one, 17*fourth+513)}, none},
		{motion{still(block(), 0, 0), moves(bar(), 2*one, 9*one, 2*one, 17*fourth+200)}, impact{65513, true}},
		{motion{still(block(), 0, 0), moves(bar(), 6*one, 0, 9*one, 5*one)}, none},
		{motion{moves(diamond(), -6*one, 0, 6*one, 0), moves(bar(), 6*one, 2*one, -6*one, 2*one)}, none},
		// Fast and thin.
		{motion{still(plate(), 0, 0), moves(thin(0, -1, 0, 1), -120*one, 0, 130*one, 0)}, impact{31448, true}},
		{motion{moves(poly(0, 0, 4096, 0, 4096, 4096, 0, 4096), -128*one, 3*one, 127*one, -3*one), still(thin(0, -8, 0, 8), 0, 0)}, impact{32871, true}},
		// Turning: the capsule, the polygon, away from each other.
		{motion{still(block(), one, 5*one), turns(arm(), 0, 0, 0, quarter)}, impact{31249, true}},
		{motion{turns(wedge(), 0, 0, 0, quarter), still(bar(), -2*one, one)}, impact{25161, true}},
		{motion{turns(wedge(), 0, 0, 0, -quarter), still(bar(), -2*one, one)}, none},
	})
}

// P19.2
func TestTimeOfImpactOfPolygons(t *testing.T) {
	check(t, []row{
		// Head on: edge to edge, corner to edge, corner to corner.
		{motion{still(block(), 0, 0), moves(block(), 9*one, one, 0, one)}, impact{36372, true}},
		{motion{still(block(), 0, 0), moves(diamond(), 2*one, 9*one, 2*one, 0)}, impact{29098, true}},
		{motion{still(diamond(), 0, 0), moves(diamond(), -6*one, 0, 0, 0)}, impact{43647, true}},
		{motion{moves(ring(), 0, 0, 9*one, 0), moves(ring(), 12*one, 0, 3*one, 0)}, impact{21823, true}},
		// At a slant, also along an edge.
		{motion{still(wedge(), 0, 0), moves(block(), 6*one, 8*one, 0, 0)}, impact{49114, true}},
		{motion{moves(diamond(), 0, 0, 3*one, 4*one), moves(block(), 5*one, 9*one, -3*one, 2*one)}, impact{47621, true}},
		// Crossing with no corner in the other one.
		{motion{still(plate(), 0, 0), moves(poly(-8*one, 0, 8*one, 0, 8*one, 4096, -8*one, 4096), 9*one, 9*one, 0, 0)}, impact{7234, true}},
		// In passing, and too far away for it.
		{motion{still(block(), 0, 0), moves(block(), -9*one, 4*one, 9*one, 4*one)}, impact{18186, true}},
		{motion{still(block(), 0, 0), moves(block(), -9*one, 5*one, 9*one, 5*one)}, none},
		// Stopping before, moving apart, and passing each other.
		{motion{still(block(), 0, 0), moves(block(), 9*one, 0, 4*one+513, 0)}, none},
		{motion{still(block(), 0, 0), moves(block(), 9*one, 0, 4*one+150, 0)}, impact{65501, true}},
		{motion{moves(block(), 0, 0, -9*one, 0), moves(wedge(), 5*one, 0, 9*one, 0)}, none},
		{motion{moves(diamond(), -6*one, 0, 6*one, 0), moves(diamond(), 6*one, 3*one, -6*one, 3*one)}, none},
		// Fast and small against thin.
		{motion{still(plate(), 0, 0), moves(poly(0, 0, 4096, 0, 4096, 4096, 0, 4096), -128*one, 3*one, 127*one, -3*one)}, impact{32879, true}},
		{motion{moves(plate(), -300*one, 0, 500*one, 0), moves(plate(), 500*one, one, -300*one, one)}, impact{32766, true}},
		// Turning: a corner into an edge, both, away from each other.
		{motion{turns(block(), 0, 0, 0, -quarter/2), still(block(), 5*one, -2*one)}, impact{29347, true}},
		{motion{turns(block(), 0, 0, 0, quarter/2), still(block(), 5*one, -2*one)}, none},
		{motion{turns(diamond(), 0, 0, quarter/2, quarter), turns(diamond(), 111*one/64, 0, -quarter/2, 0)}, impact{50852, true}},
		{motion{travels(plate(), at(0, 0, 0), at(6*one, 0, quarter)), still(block(), 2*one, 2*one)}, none},
	})
}

// P19.2
func TestTimeOfImpactOfShapesAtRest(t *testing.T) {
	check(t, []row{
		// Shapes that overlap, touch, or are at most the slop apart meet at once.
		{motion{still(ball(), 0, 0), still(ball(), one, 0)}, impact{0, true}},
		{motion{still(ball(), 0, 0), still(ball(), 0, 0)}, impact{0, true}},
		{motion{still(ball(), 0, 0), still(ball(), 2*one, 0)}, impact{0, true}},
		{motion{still(ball(), 0, 0), still(ball(), 2*one+1, 0)}, impact{0, true}},
		{motion{still(ball(), 0, 0), still(ball(), 2*one+512, 0)}, impact{0, true}},
		{motion{still(bar(), 0, 0), still(ball(), 0, -5*fourth-512)}, impact{0, true}},
		{motion{still(bar(), 0, 0), still(bar(), 5*half+512, 0)}, impact{0, true}},
		{motion{still(block(), 0, 0), still(ball(), 2*one, 5*one+512)}, impact{0, true}},
		{motion{still(block(), 0, 0), still(bar(), 5*one, 17*fourth+512)}, impact{0, true}},
		{motion{still(block(), 0, 0), still(block(), -4*one-512, one)}, impact{0, true}},
		{motion{still(block(), 0, 0), still(pebble(), 2*one, 2*one)}, impact{0, true}},
		{motion{still(ring(), 0, 0), still(diamond(), 3*one, 3*one)}, impact{0, true}},
		// Others do not: a step leads beyond the end, as the bounds of both sum up to 8.
		{motion{still(ball(), 0, 0), still(ball(), 2*one+513, 0)}, none},
		{motion{still(bar(), 0, 0), still(ball(), 0, -5*fourth-513)}, none},
		{motion{still(bar(), 0, 0), still(bar(), 5*half+513, 0)}, none},
		{motion{still(block(), 0, 0), still(ball(), 2*one, 5*one+513)}, none},
		{motion{still(block(), 0, 0), still(bar(), 5*one, 17*fourth+513)}, none},
		{motion{still(block(), 0, 0), still(block(), -4*one-513, one)}, none},
		{motion{still(diamond(), 0, 0), still(ring(), 9*one, 9*one)}, none},
		{motion{still(pebble(), -world, -world), still(pebble(), world, world)}, none},
	})
}

// P19.2, P19.3
func TestTimeOfImpactAtTheStart(t *testing.T) {
	check(t, []row{
		// Within each other, touching, and up to the slop apart: at once, whatever the way.
		{motion{moves(ball(), 0, 0, 9*one, 0), moves(ball(), one, 0, -9*one, 0)}, impact{0, true}},
		{motion{moves(ball(), 0, 0, 0, 0), moves(ball(), 2*one, 0, 6*one, 0)}, impact{0, true}},
		{motion{still(ball(), 0, 0), moves(ball(), 2*one+512, 0, 90*one, 0)}, impact{0, true}},
		{motion{still(ball(), 0, 0), moves(ball(), 2*one+512, 0, 0, 0)}, impact{0, true}},
		{motion{still(ball(), 0, 0), moves(ball(), 2*one+256, 0, 2*one+256, 0)}, impact{0, true}},
		{motion{moves(bar(), 0, 0, 0, -5*one), moves(bar(), 0, half+512, 0, 5*one)}, impact{0, true}},
		{motion{moves(block(), 0, 0, -one, 0), turns(ball(), 5*one+512, one, 0, quarter)}, impact{0, true}},
		{motion{turns(block(), 0, 0, 0, quarter), moves(block(), 4*one+512, 0, 5*one, 0)}, impact{0, true}},
		{motion{moves(block(), 0, 0, most, most), moves(block(), 4*one+512, 0, -most, -most)}, impact{0, true}},
		// One unit more than the slop: the next step leads closer, or away, or beyond the end.
		{motion{still(ball(), 0, 0), moves(ball(), 2*one+513, 0, one, 0)}, impact{254, true}},
		{motion{still(ball(), 0, 0), moves(ball(), 2*one+513, 0, 2*one+213, 0)}, impact{54577, true}},
		{motion{still(ball(), 0, 0), moves(ball(), 2*one+513, 0, 4*one, 0)}, none},
		{motion{moves(bar(), 0, 0, 0, one), moves(bar(), 0, half+513, 0, half)}, impact{254, true}},
		{motion{still(block(), 0, 0), moves(block(), 4*one+513, 0, 4*one, 0)}, impact{32264, true}},
		{motion{moves(block(), 0, 0, most, most), moves(block(), 4*one+513, 0, -most, -most)}, impact{1, true}},
	})
}

// P19.2: each step is g*One / (2*m), rounded down, but at least 1.
func TestStepsOfTheAdvancement(t *testing.T) {
	check(t, []row{
		// A step is rounded down: it is 513*One / (2*308), which is 54577 and a remainder of more than half, and leads to a separation of 263.
		{motion{still(ball(), 0, 0), moves(ball(), 2*one+513, 0, 2*one+213, 0)}, impact{54577, true}},
		// With g = 600 and m = 300 it leads to the end exactly, where the separation is 308.
		{motion{still(ball(), 0, 0), moves(ball(), 2*one+600, 0, 2*one+308, 0)}, impact{one, true}},
		// With g = 601 it leads beyond the end, though the separation is 309 there.
		{motion{still(ball(), 0, 0), moves(ball(), 2*one+601, 0, 2*one+309, 0)}, none},
		// With g = 1200 and m = 600 it leads to the end exactly, where the separation is 608, and the next one beyond.
		{motion{still(ball(), 0, 0), moves(ball(), 2*one+1200, 0, 2*one+608, 0)}, none},
		// With g = 1000 and m = 500 it leads to the end exactly, where the separation is 508, 512 or 513.
		{motion{still(ball(), 0, 0), moves(ball(), 2*one+1000, 0, 2*one+508, 0)}, impact{one, true}},
		{motion{still(ball(), 0, 0), moves(ball(), 2*one+1008, 0, 2*one+512, 0)}, impact{one, true}},
		{motion{still(ball(), 0, 0), moves(ball(), 2*one+1010, 0, 2*one+513, 0)}, none},
		// The fourth step leads one unit beyond the end, though the separation is 475 there.
		{motion{still(ball(), 0, 0), moves(ball(), 2*one+7562, 0, 2*one+475, 0)}, none},
		// The bound of each shape counts, also that of a shape that rests.
		{motion{moves(ball(), 0, 0, 150, 0), moves(ball(), 2*one+600, 0, 2*one+458, 0)}, impact{one, true}},
		{motion{moves(ball(), 0, 0, 150, 0), moves(ball(), 2*one+601, 0, 2*one+459, 0)}, none},
		// The turn counts though it changes nothing: 146 times One and 146 units of the way.
		{motion{still(ball(), 0, 0), travels(ball(), at(2*one+600, 0, 0), at(2*one+454, 0, 146))}, impact{one, true}},
		// A step is at least 1 where the bound is great: here it is 2*MaxValue, so that each step is the separation through 32768, rounded down.
		{motion{moves(ball(), -world, 0, world, 0), moves(ball(), -world+2*one+1000, 0, world, 0)}, impact{40, true}},
		{motion{moves(ball(), -world, 0, world, 0), moves(ball(), -world+2*one+40000, 0, world+2*one+40000, 0)}, impact{40, true}},
		{motion{moves(ball(), -world, 0, world, 0), moves(ball(), -world+2*one+70000, 0, world+2*one+70000, 0)}, impact{80, true}},
		{motion{moves(ball(), -world, 0, world, 0), moves(ball(), -world, 3*one, world, 3*one)}, impact{80, true}},
		{motion{moves(ball(), -world, -world, world, world), moves(ball(), -world, -world+5*one, world, world+5*one)}, impact{240, true}},
		// So shapes that fast pass through each other unseen: here the first step leads from the separation 513 to the other side.
		{motion{moves(pebble(), 0, 0, most, 0), moves(pebble(), 4609, 0, 4609-most, 0)}, none},
	})
}

// P19.2: the fortieth iteration ends the advancement.
func TestFortiethIteration(t *testing.T) {
	check(t, []row{
		// Both moving alike: 40 steps of 1638 lead to 65520, and 40 steps of 1639 beyond the end.
		{motion{moves(ball(), 0, 0, 10*one, 0), moves(ball(), 0, 3*one, 10*one, 3*one)}, impact{65520, true}},
		{motion{moves(ball(), 0, 0, 10*one, 0), moves(ball(), 0, 3*one+25, 10*one, 3*one+25)}, none},
		{motion{moves(ball(), 0, 0, 10*one, 0), moves(ball(), 0, 3*one+12, 10*one, 3*one+12)}, impact{65520, true}},
		{motion{moves(ball(), 0, 0, 0, -90*one), moves(bar(), 3*one, 0, 3*one, -90*one)}, impact{5440, true}},
		{motion{moves(block(), 0, 0, 20*one, 0), moves(block(), 5*one, 0, 25*one, 0)}, impact{32760, true}},
		{motion{moves(block(), 0, 0, 0, 60*one), moves(bar(), 9*one, one, 9*one, 61*one)}, impact{40920, true}},
		// Turning in place beside another shape.
		{motion{turns(ball(), 0, 0, 0, 2*quarter), still(ball(), 2*one+1000, 0)}, impact{6360, true}},
		{motion{turns(ball(), 0, 0, 0, -quarter), still(bar(), 0, -5*fourth-2000)}, impact{25440, true}},
		{motion{turns(ball(), 0, 0, quarter, -quarter), still(block(), one+700, -one)}, impact{4440, true}},
		// Coming close slowly, with much turning: the slop is not reached by then, or it is.
		{motion{still(ball(), 0, 0), travels(ball(), at(2*one+3000, 0, 0), at(2*one+100, 0, quarter))}, impact{28734, true}},
		{motion{still(ball(), 0, 0), travels(ball(), at(2*one+3000, 0, 0), at(2*one-5000, 0, quarter))}, impact{18909, true}},
		{motion{still(ball(), 0, 0), travels(ball(), at(2*one+3000, 0, 0), at(2*one-9000, 0, quarter))}, impact{13730, true}},
		// Passing closely, within the slop of each other and not.
		{motion{still(ball(), 0, 0), moves(ball(), -6*one, 2*one+500, 6*one, 2*one+500)}, impact{32040, true}},
		{motion{still(ball(), 0, 0), moves(ball(), -6*one, 2*one+513, 6*one, 2*one+513)}, impact{32050, true}},
	})
}

// P19.2: transforms that are not valid are used as they are.
func TestTimeOfImpactOfInvalidTransforms(t *testing.T) {
	check(t, []row{
		// Angles beyond a whole turn, and the ends of the ints.
		{motion{travels(arm(), at(0, 0, 4*quarter), at(0, 0, 9*quarter)), still(ball(), 0, 6*one)}, impact{56734, true}},
		{motion{travels(arm(), at(0, 0, -8*quarter), at(0, 0, -7*quarter)), still(ball(), 0, 6*one)}, impact{56734, true}},
		{motion{travels(arm(), at(0, 0, 400*quarter), at(0, 0, 403*quarter)), still(ball(), 0, -6*one)}, impact{56734, true}},
		{motion{travels(arm(), at(0, 0, high), at(0, 0, low)), still(ball(), 0, 6*one)}, none},
		// Positions beyond the saturated ones, where both shapes are alike or far apart.
		{motion{still(ball(), high, 0), still(ball(), far, 0)}, impact{0, true}},
		{motion{moves(ball(), low, 0, 0, 0), moves(ball(), high, 0, 0, 0)}, impact{65528, true}},
		{motion{moves(ball(), low, low, high, high), moves(ball(), high, high, low, low)}, impact{65531, true}},
		{motion{moves(ball(), low, 0, high, 0), still(ball(), 0, 0)}, impact{65520, true}},
		{motion{still(ball(), most, 0), moves(ball(), most-6*one, 0, far, 0)}, impact{43647, true}},
		{motion{still(ball(), -most, -most), moves(ball(), low, 6*one-most, low, low)}, impact{43647, true}},
		{motion{moves(ball(), 0, low, 0, high), still(block(), 0, 0)}, impact{65528, true}},
		// A polygon that shrinks to a point contains everything.
		{motion{still(block(), high, high), still(ball(), 0, 0)}, impact{0, true}},
		{motion{moves(block(), 0, 0, far, far), still(ball(), 0, 9*one)}, none},
	})
}

// P19.2: an invalid shape meets nothing, not even where the shapes would overlap or are the same.
func TestTimeOfImpactOfInvalidShapes(t *testing.T) {
	for _, bad := range invalidShapes() {
		for _, other := range append(invalidShapes(), ball(), bar(), block()) {
			for _, m := range []motion{
				{still(bad, 0, 0), still(other, 0, 0)},
				{still(bad, 0, 0), moves(other, 6*one, 0, 0, 0)},
				{moves(bad, -6*one, 0, 6*one, 0), turns(other, 0, 0, 0, quarter)},
				{moves(bad, 0, 0, 9*one, 0), moves(bad, 0, 0, 9*one, 0)},
				{travels(bad, at(low, low, low), at(high, high, high)), travels(other, at(high, high, high), at(low, low, low))},
			} {
				for _, m := range []motion{m, m.exchanged()} {
					if got := timeOfImpact(m); got != none {
						t.Errorf("TimeOfImpact%v = %v, want %v", m, got, none)
					}
				}
			}
		}
	}
}
