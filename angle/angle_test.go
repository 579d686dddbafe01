package angle_test

import (
	"math"
	"math/big"
	"testing"

	"carom/angle"
	"carom/api"
)

const (
	one  = api.One
	half = api.HalfPi
	pi   = api.Pi
	turn = api.TwoPi
)

// unary and binary are rows of the tables: the arguments and the value that the chapter asks for.
type unary struct{ a, want int }
type binary struct{ a, b, want int }

func checkRows(t *testing.T, name string, call func(int) int, rows []unary) {
	t.Helper()
	for _, row := range rows {
		if got := call(row.a); got != row.want {
			t.Errorf("%s(%d) = %d, want %d", name, row.a, got, row.want)
		}
	}
}

// checkAll compares call with oracle on two whole turns and on numbers from the whole range of int.
func checkAll(t *testing.T, name string, call, oracle func(int) int) {
	t.Helper()
	for _, a := range append(circle(), samples()...) {
		if got, want := call(a), oracle(a); got != want {
			t.Fatalf("%s(%d) = %d, want %d", name, a, got, want)
		}
	}
}

// P2.1
func TestNormalize(t *testing.T) {
	checkRows(t, "Normalize", angle.Normalize, []unary{
		{0, 0}, {1, 1}, {-1, -1}, {one, one}, {-2 * one, -2 * one}, {half, half}, {-half, -half},
		{pi - 1, pi - 1}, {pi, -pi}, {pi + 1, 1 - pi}, {1 - pi, 1 - pi}, {-pi, -pi}, {-pi - 1, pi - 1},
		{3 * half, -half}, {-3 * half, half},
		{turn - 1, -1}, {turn, 0}, {turn + 1, 1}, {1 - turn, 1}, {-turn, 0}, {-turn - 1, -1},
		{3*pi - 1, pi - 1}, {3 * pi, -pi}, {-3 * pi, -pi}, {-3*pi - 1, pi - 1},
		{5*turn + 7, 7}, {-3*turn - 7, -7}, {1000*turn + pi, -pi}, {-1000*turn - pi, -pi},
		{1 << 40, 117632}, {-1 << 40, -117632},
		{math.MaxInt, -152193}, {math.MaxInt - 1, -152194}, {math.MinInt, 152192}, {math.MinInt + 1, 152193},
	})
	checkAll(t, "Normalize", angle.Normalize, wantNormalize)
}

// P2.1
func TestNormalizeDiffersByWholeTurns(t *testing.T) {
	for _, a := range samples() {
		got := angle.Normalize(a)
		if got < -pi || got >= pi {
			t.Fatalf("Normalize(%d) = %d is not in [-Pi, Pi)", a, got)
		}
		gap := new(big.Int).Sub(big.NewInt(int64(a)), big.NewInt(int64(got)))
		if gap.Rem(gap, big.NewInt(turn)).Sign() != 0 {
			t.Fatalf("Normalize(%d) = %d differs by a part of a turn", a, got)
		}
	}
}

// P2.1
func TestDiff(t *testing.T) {
	rows := []binary{
		{0, 0, 0}, {0, 1, 1}, {1, 0, -1}, {one, 3 * one, 2 * one}, {3 * one, one, -2 * one}, {-5, 5, 10},
		{half, -half, -pi}, {-half, half, -pi}, {0, pi, -pi}, {pi, 0, -pi}, {0, -pi, -pi}, {-pi, pi, 0}, {pi, pi, 0},
		{half, 1 - half, 1 - pi}, {half, -half - 1, pi - 1}, {-half, half - 1, pi - 1}, {-half, half + 1, 1 - pi},
		// The shorter way leads over Pi.
		{pi - 1, -pi, 1}, {-pi, pi - 1, -1}, {3 * one, -3 * one, turn - 6*one},
		{0, 7 * turn, 0}, {5 * turn, 5*turn + 9, 9}, {-3 * turn, half + 2*turn, half},
		// The arguments are normalized before they are subtracted, so that nothing overflows.
		{0, math.MaxInt, -152193}, {math.MaxInt, 0, 152193}, {0, math.MinInt, 152192}, {math.MinInt, 0, -152192},
		{math.MinInt, math.MaxInt, 107391}, {math.MaxInt, math.MinInt, -107391}, {math.MinInt, math.MinInt, 0}, {math.MaxInt, math.MaxInt, 0},
	}
	for _, row := range rows {
		if got := angle.Diff(row.a, row.b); got != row.want {
			t.Errorf("Diff(%d, %d) = %d, want %d", row.a, row.b, got, row.want)
		}
	}
	numbers := append(edges(), spread(2, 300)...)
	for _, a := range numbers {
		for _, b := range numbers {
			if got, want := angle.Diff(a, b), wantDiff(a, b); got != want {
				t.Fatalf("Diff(%d, %d) = %d, want %d", a, b, got, want)
			}
		}
	}
}

// P2.2
func TestSin(t *testing.T) {
	checkRows(t, "Sin", angle.Sin, []unary{
		{0, 0}, {1, 2}, {2, 2}, {-1, -2}, {one, 55156}, {-one, -55156}, {one / 2, 31409}, {3 * one / 2, 65373},
		{half / 2, 46341}, {34315, 32759}, {68629, 56766}, {123456, 62363}, {200000, 5875}, {3 * half / 2, 46341},
		{half - 1, one}, {half, one}, {half + 1, one}, {1 - half, -one}, {-half, -one}, {-half - 1, -one},
		{pi - 1, 2}, {pi, 0}, {pi + 1, -2}, {1 - pi, -2}, {-pi, 0}, {-pi - 1, 2},
		{3 * half, -one}, {-3 * half, one}, {turn - 1, -2}, {turn, 0}, {turn + 1, 2}, {-turn, 0},
		// The polynomial is not cut off where its rounded value passes One.
		{102669, one + 1}, {-102669, -one - 1}, {102837, one + 1},
		{10*turn + half/2, 46341}, {-10*turn - half/2, -46341}, {1 << 40, 63905}, {-1 << 40, -63905},
		{math.MaxInt, -47887}, {math.MaxInt - 1, -47887}, {math.MinInt, 47888}, {math.MinInt + 1, 47887},
	})
	checkAll(t, "Sin", angle.Sin, wantSin)
}

// P2.2
func TestCos(t *testing.T) {
	checkRows(t, "Cos", angle.Cos, []unary{
		{0, one}, {1, one}, {-1, one}, {one, 35401}, {-one, 35401}, {one / 2, 57525}, {3 * one / 2, 4633},
		{half / 2, 46341}, {34315, 56766}, {68629, 32759}, {123456, -20167}, {-123456, -20167}, {200000, -65274},
		{half - 1, 2}, {half, 0}, {half + 1, -2}, {1 - half, 2}, {-half, 0}, {-half - 1, -2},
		{pi - 1, -one}, {pi, -one}, {pi + 1, -one}, {1 - pi, -one}, {-pi, -one}, {-pi - 1, -one},
		{3 * half, 0}, {-3 * half, 0}, {turn - 1, one}, {turn, one}, {-turn, one},
		{half - 102669, one + 1}, {102669 - half, one + 1},
		{10*turn + half/2, 46341}, {-10*turn - half/2, 46341}, {1 << 40, -14557}, {-1 << 40, -14557},
		{math.MaxInt, -44741}, {math.MaxInt - 1, -44741}, {math.MinInt, -44740}, {math.MinInt + 1, -44741},
	})
	checkAll(t, "Cos", angle.Cos, wantCos)
}

// P2.2: the polynomial is close to the functions that it stands for.
func TestSinAndCosAreClose(t *testing.T) {
	const tolerance = 16
	for _, a := range circle() {
		sine, cosine := math.Sincos(float64(a) / one)
		if gap := math.Abs(float64(angle.Sin(a)) - one*sine); gap > tolerance {
			t.Fatalf("Sin(%d) = %d is off by %v", a, angle.Sin(a), gap)
		}
		if gap := math.Abs(float64(angle.Cos(a)) - one*cosine); gap > tolerance {
			t.Fatalf("Cos(%d) = %d is off by %v", a, angle.Cos(a), gap)
		}
	}
}

// P2.3
func TestRot(t *testing.T) {
	rows := []struct {
		a    int
		want api.Rot
	}{
		{0, api.Rot{Cos: one}}, {half, api.Rot{Sin: one}}, {-half, api.Rot{Sin: -one}}, {pi, api.Rot{Cos: -one}}, {-pi, api.Rot{Cos: -one}},
		{turn, api.Rot{Cos: one}}, {-turn, api.Rot{Cos: one}}, {3 * half, api.Rot{Sin: -one}}, {-3 * half, api.Rot{Sin: one}},
		{1, api.Rot{Cos: one, Sin: 2}}, {-1, api.Rot{Cos: one, Sin: -2}}, {half - 1, api.Rot{Cos: 2, Sin: one}}, {half + 1, api.Rot{Cos: -2, Sin: one}},
		{pi - 1, api.Rot{Cos: -one, Sin: 2}}, {pi + 1, api.Rot{Cos: -one, Sin: -2}},
		{half / 2, api.Rot{Cos: 46341, Sin: 46341}}, {3 * half / 2, api.Rot{Cos: -46341, Sin: 46341}},
		// These differ from the cosine and sine of the polynomial.
		{one, api.Rot{Cos: 35399, Sin: 55153}}, {-one, api.Rot{Cos: 35399, Sin: -55153}}, {one / 2, api.Rot{Cos: 57521, Sin: 31407}},
		{34315, api.Rot{Cos: 56763, Sin: 32757}}, {123456, api.Rot{Cos: -20165, Sin: 62357}}, {200000, api.Rot{Cos: -65273, Sin: 5875}},
		{math.MaxInt, api.Rot{Cos: -44742, Sin: -47888}}, {math.MinInt, api.Rot{Cos: -44741, Sin: 47889}}, {1 << 40, api.Rot{Cos: -14556, Sin: 63899}},
	}
	for _, row := range rows {
		if got := angle.Rot(row.a); got != row.want {
			t.Errorf("Rot(%d) = %v, want %v", row.a, got, row.want)
		}
	}
	for _, a := range append(circle(), samples()...) {
		if got, want := angle.Rot(a), wantRot(a); got != want {
			t.Fatalf("Rot(%d) = %v, want %v", a, got, want)
		}
	}
}

// P2.4
func TestSinIsOdd(t *testing.T) {
	for _, a := range append(circle(), samples()...) {
		// The least int has no negative.
		if a != math.MinInt && angle.Sin(-a) != -angle.Sin(a) {
			t.Fatalf("Sin(%d) = %d, Sin(%d) = %d", a, angle.Sin(a), -a, angle.Sin(-a))
		}
	}
}

// P2.4
func TestRotHasUnitLength(t *testing.T) {
	for _, a := range append(circle(), samples()...) {
		r := angle.Rot(a)
		if gap := r.Cos*r.Cos + r.Sin*r.Sin - one*one; magnitude(gap) >= 8*one {
			t.Fatalf("Rot(%d) = %v, whose squared length is off by %d", a, r, gap)
		}
	}
}
