package fixed_test

import (
	"math"
	"math/big"
	"testing"

	"carom/api"
	"carom/fixed"
)

const (
	one  = api.One
	most = api.MaxValue
)

// unary and binary are rows of the tables: the arguments and the value that the chapter asks for.
type unary struct{ x, want int }
type binary struct{ a, b, want int }
type ternary struct{ a, b, c, want int }

func checkUnary(t *testing.T, name string, call, oracle func(int) int, rows []unary, numbers []int) {
	t.Helper()
	for _, row := range rows {
		if got := call(row.x); got != row.want {
			t.Errorf("%s(%d) = %d, want %d", name, row.x, got, row.want)
		}
	}
	for _, x := range numbers {
		if got, want := call(x), oracle(x); got != want {
			t.Fatalf("%s(%d) = %d, want %d", name, x, got, want)
		}
	}
}

func checkBinary(t *testing.T, name string, call, oracle func(int, int) int, rows []binary) {
	t.Helper()
	for _, row := range rows {
		if got := call(row.a, row.b); got != row.want {
			t.Errorf("%s(%d, %d) = %d, want %d", name, row.a, row.b, got, row.want)
		}
	}
	numbers := samples()
	for _, a := range numbers {
		for _, b := range numbers {
			if got, want := call(a, b), oracle(a, b); got != want {
				t.Fatalf("%s(%d, %d) = %d, want %d", name, a, b, got, want)
			}
		}
	}
}

func checkTernary(t *testing.T, name string, call, oracle func(int, int, int) int, rows []ternary) {
	t.Helper()
	for _, row := range rows {
		if got := call(row.a, row.b, row.c); got != row.want {
			t.Errorf("%s(%d, %d, %d) = %d, want %d", name, row.a, row.b, row.c, got, row.want)
		}
	}
	as, bs, cs := append(edges(), spread(2, 1000)...), append(edges(), spread(3, 1000)...), append(edges(), spread(4, 1000)...)
	for i, a := range as {
		for step := range 100 {
			b, c := bs[(i+17*step)%len(bs)], cs[(3*i+step)%len(cs)]
			if got, want := call(a, b, c), oracle(a, b, c); got != want {
				t.Fatalf("%s(%d, %d, %d) = %d, want %d", name, a, b, c, got, want)
			}
		}
	}
}

// P1.1
func TestSaturate(t *testing.T) {
	checkUnary(t, "Saturate", fixed.Saturate, saturated, []unary{
		{0, 0}, {1, 1}, {-1, -1}, {one, one}, {-7 * one, -7 * one},
		{most - 1, most - 1}, {most, most}, {most + 1, most},
		{-most + 1, -most + 1}, {-most, -most}, {-most - 1, -most},
		{math.MaxInt, most}, {math.MinInt, -most}, {1 << 32, most}, {-1 << 32, -most},
	}, samples())
}

// P1.1
func TestAdd(t *testing.T) {
	checkBinary(t, "Add", fixed.Add, wantAdd, []binary{
		{0, 0, 0}, {3, 4, 7}, {-3, 4, 1}, {one, -3 * one, -2 * one},
		{most - 1, 1, most}, {most, 1, most}, {most, most, most}, {most, -1, most - 1},
		{-most + 1, -1, -most}, {-most, -1, -most}, {-most, -most, -most},
		// The arguments are saturated before they are added.
		{2 * most, -most, 0}, {most + 5, -5, most - 5}, {-most - 5, 5, -most + 5}, {math.MinInt, most, 0},
		{math.MaxInt, math.MaxInt, most}, {math.MinInt, math.MinInt, -most}, {math.MaxInt, math.MinInt, 0},
	})
}

// P1.1
func TestSub(t *testing.T) {
	checkBinary(t, "Sub", fixed.Sub, wantSub, []binary{
		{0, 0, 0}, {3, 4, -1}, {-3, 4, -7}, {one, -3 * one, 4 * one},
		{most - 1, -1, most}, {most, -1, most}, {most, -most, most}, {most, 1, most - 1},
		{-most + 1, 1, -most}, {-most, 1, -most}, {-most, most, -most}, {0, most, -most},
		{2 * most, most, 0}, {most + 5, 5, most - 5}, {5, most + 5, 5 - most}, {math.MinInt, -most, 0},
		{math.MinInt, math.MinInt, 0}, {math.MaxInt, math.MinInt, most}, {math.MinInt, math.MaxInt, -most}, {0, math.MinInt, most},
	})
}

// P1.2
func TestRoundDiv(t *testing.T) {
	const limit = 1 << 62
	checkBinary(t, "RoundDiv", fixed.RoundDiv, wantRoundDiv, []binary{
		{0, 1, 0}, {7, 1, 7}, {-7, 1, -7}, {7, 3, 2}, {8, 3, 3}, {-7, 3, -2}, {-8, 3, -3},
		// Halves go away from zero.
		{1, 2, 1}, {-1, 2, -1}, {3, 2, 2}, {-3, 2, -2}, {5, 10, 1}, {-5, 10, -1}, {4, 10, 0}, {-4, 10, 0}, {2, 5, 0}, {3, 5, 1}, {-2, 5, 0}, {-3, 5, -1},
		{limit, limit, 1}, {-limit, limit, -1}, {limit, 1, limit}, {-limit, 1, -limit},
		{limit / 2, limit, 1}, {limit/2 - 1, limit, 0}, {-limit / 2, limit, -1}, {-limit/2 + 1, limit, 0},
		{limit - 1, limit, 1}, {1 - limit, limit, -1}, {limit - 1, limit - 1, 1}, {limit, limit - 1, 1},
		{limit / 2, limit - 1, 1}, {limit/2 - 1, limit - 1, 0}, {limit - 1, 2, limit / 2},
		// Beyond the limits there is no quotient.
		{5, 0, 0}, {5, -1, 0}, {-5, -1, 0}, {0, 0, 0}, {5, math.MinInt, 0},
		{limit + 1, 1, 0}, {-limit - 1, 1, 0}, {limit, limit + 1, 0}, {math.MaxInt, 1, 0}, {math.MinInt, 1, 0}, {math.MaxInt, math.MaxInt, 0}, {math.MinInt, -1, 0},
		{limit + 1, limit, 0}, {-limit - 1, limit, 0},
	})
}

// P1.2
func TestMul(t *testing.T) {
	checkBinary(t, "Mul", fixed.Mul, wantMul, []binary{
		{98304, 98304, 147456}, {0, one, 0}, {one, one, one}, {-one, one, -one}, {-one, -one, one}, {2 * one, 3 * one, 6 * one},
		{1, one / 2, 1}, {-1, one / 2, -1}, {1, -one / 2, -1}, {-1, -one / 2, 1}, {1, one/2 - 1, 0}, {-1, one/2 - 1, 0}, {3, one / 2, 2}, {-3, one / 2, -2}, {1, 1, 0},
		{most, one, most}, {most, -one, -most}, {most, one + 1, most}, {-most, one + 1, -most}, {most, one - 1, 536862719}, {most, most, most}, {most, -most, -most}, {-most, -most, most},
		// The arguments are saturated before they are multiplied.
		{1 << 40, one / 2, 1 << 28}, {-1 << 40, one / 2, -1 << 28}, {1 << 40, 0, 0}, {1 << 40, 1, 8192}, {most + 1, one / 4, 134217728}, {1 << 40, 2 * one, most},
		{math.MaxInt, math.MaxInt, most}, {math.MaxInt, math.MinInt, -most}, {math.MinInt, math.MinInt, most}, {math.MinInt, 1, -8192}, {math.MinInt, 0, 0},
	})
}

// P1.2
func TestDiv(t *testing.T) {
	checkBinary(t, "Div", fixed.Div, wantDiv, []binary{
		{one, 3 * one, 21845}, {one, -3 * one, -21845}, {-one, 3 * one, -21845}, {-one, -3 * one, 21845}, {6 * one, 2 * one, 3 * one}, {0, one, 0}, {0, -one, 0}, {2 * one, 3 * one, 43691},
		{1, 2 * one, 1}, {-1, 2 * one, -1}, {1, -2 * one, -1}, {-1, -2 * one, 1}, {1, 2*one + 1, 0}, {1, 2*one - 1, 1}, {3, 2 * one, 2}, {-3, 2 * one, -2},
		{5, 0, most}, {-5, 0, -most}, {0, 0, 0}, {1, 0, most}, {-1, 0, -most}, {math.MaxInt, 0, most}, {math.MinInt, 0, -most},
		{most, 1, most}, {most, -1, -most}, {-most, 1, -most}, {-most, -1, most}, {8192, 1, most}, {8191, 1, 8191 * one}, {-8192, 1, -most}, {most, one, most}, {most, one - 1, most},
		// The arguments are saturated before they are divided.
		{math.MaxInt, math.MaxInt, one}, {math.MinInt, math.MaxInt, -one}, {math.MinInt, math.MinInt, one}, {1 << 40, 2 * one, 1 << 28}, {1 << 40, 1 << 30, one}, {one, 1 << 40, 8}, {one, math.MinInt, -8}, {math.MinInt, -1, most},
	})
}

// P1.3
func TestRatio(t *testing.T) {
	const scaled, limit = 1 << 46, 1 << 62
	checkBinary(t, "Ratio", fixed.Ratio, wantRatio, []binary{
		{1, 2, one / 2}, {1, 3, 21845}, {2, 3, 43691}, {1, one, 1}, {1, 2 * one, 1}, {1, 2*one + 1, 0}, {1, 1 << 40, 0},
		{0, 1, 0}, {0, 5, 0}, {-1, 2, 0}, {math.MinInt, 2, 0}, {3, 0, 0}, {3, -2, 0}, {-3, -2, 0}, {3, math.MinInt, 0}, {-1, limit, 0}, {0, limit, 0},
		{1, 1, one}, {3, 2, one}, {2, 2, one}, {math.MaxInt, 1, one}, {math.MaxInt, limit, one}, {limit, limit, one}, {limit + 1, limit, one}, {limit - 1, limit, one},
		{1, limit + 1, 0}, {limit, limit + 1, 0}, {math.MaxInt, math.MaxInt, 0}, {limit + 1, limit + 1, 0},
		{limit / 2, limit, one / 2}, {1 << 60, 1 << 61, one / 2}, {limit / one, limit, 1}, {limit/one/2 - 1, limit, 0}, {limit / one / 2, limit, 1},
		{scaled / 2, scaled, one / 2}, {scaled - 1, scaled, one}, {scaled - 2, scaled - 1, one}, {scaled, scaled + 1, one}, {scaled / 4, scaled - 1, one / 4}, {scaled / 4, scaled + 1, one / 4},
		// Below 2^46 the quotient is exact before it is rounded; from there on the divisor is rounded first.
		{60000<<30 + 1<<29 - 1, scaled - 1<<15, 60001}, {60000<<30 + 1<<29, scaled, 60001}, {60000<<30 + 1<<29, scaled + 1, 60001}, {60000<<30 + 1<<29, scaled + 1<<15 - 1, 60001}, {60000<<30 + 1<<29, scaled + 1<<15, 60000},
	})
}

// P1.3
func TestRatioLiesInUnitInterval(t *testing.T) {
	numbers := samples()
	for _, n := range numbers {
		for _, d := range numbers {
			if got := fixed.Ratio(n, d); got < 0 || got > one {
				t.Fatalf("Ratio(%d, %d) = %d", n, d, got)
			}
		}
	}
}

// P1.3: operands near each other, on both sides of 2^46 and of halves of a unit.
func TestRatioNearLimits(t *testing.T) {
	for _, base := range []int{1 << 45, 1 << 46, 1 << 47, 1 << 61, 1 << 62} {
		for _, offset := range []int{-1 << 16, -1<<15 - 1, -1 << 15, -2, -1, 0, 1, 2, 1<<15 - 1, 1 << 15, 1 << 16} {
			d := base + offset
			for _, part := range []int{1, 2, 3, 255, 65535} {
				for _, n := range []int{d/part - 1, d / part, d/part + 1, base/65536*part + base/131072 - 1, base/65536*part + base/131072} {
					if got, want := fixed.Ratio(n, d), wantRatio(n, d); got != want {
						t.Fatalf("Ratio(%d, %d) = %d, want %d", n, d, got, want)
					}
				}
			}
		}
	}
}

// P1.4
func TestIsqrt(t *testing.T) {
	checkUnary(t, "Isqrt", fixed.Isqrt, wantIsqrt, []unary{
		{0, 0}, {1, 1}, {2, 1}, {3, 1}, {4, 2}, {8, 2}, {9, 3}, {99, 9}, {100, 10}, {1 << 32, 1 << 16},
		{1<<62 - 1, 1<<31 - 1}, {1 << 62, 1 << 31}, {1<<62 + 1, 0}, {math.MaxInt, 0},
		{-1, 0}, {-4, 0}, {-1 << 62, 0}, {math.MinInt, 0},
	}, append(samples(), spread(5, 20000)...))
}

// P1.4
func TestIsqrtBesideSquares(t *testing.T) {
	roots := []int{1<<31 - 2, 1<<31 - 1, 1<<26 - 1, 1 << 26, 94906265, 94906266}
	for root := 1; root < 1<<12; root++ {
		roots = append(roots, root, root*524287)
	}
	for _, root := range roots {
		if below, at := fixed.Isqrt(root*root-1), fixed.Isqrt(root*root); below != root-1 || at != root {
			t.Fatalf("beside the square of %d: %d, %d", root, below, at)
		}
		if last := fixed.Isqrt(root*root + 2*root); last != root {
			t.Fatalf("before the square of %d: %d", root+1, last)
		}
	}
}

// P1.4
func TestSqrt(t *testing.T) {
	checkUnary(t, "Sqrt", fixed.Sqrt, wantSqrt, []unary{
		{2 * one, 92681}, {one, one}, {4 * one, 2 * one}, {one / 4, one / 2}, {0, 0}, {1, 256}, {2, 362}, {3, 443},
		{-1, 0}, {-5, 0}, {-4 * one, 0}, {math.MinInt, 0}, {-most, 0},
		{most - 1, 5931641}, {most, 5931641}, {most + 1, 5931641}, {1 << 40, 5931641}, {math.MaxInt, 5931641},
	}, append(samples(), spread(6, 20000)...))
}

// P1.4
func TestClamp(t *testing.T) {
	checkTernary(t, "Clamp", fixed.Clamp, wantClamp, []ternary{
		{5, 1, 9, 5}, {0, 1, 9, 1}, {1, 1, 9, 1}, {9, 1, 9, 9}, {10, 1, 9, 9}, {-5, -9, -1, -5}, {5, 1, 3, 3}, {7, 7, 7, 7}, {6, 7, 7, 7}, {8, 7, 7, 7},
		// An empty interval gives its lower bound, wherever x lies.
		{1, 7, 3, 7}, {5, 7, 3, 7}, {9, 7, 3, 7}, {math.MinInt, math.MaxInt, math.MinInt, math.MaxInt}, {math.MaxInt, 3, 2, 3},
		// It does not saturate.
		{1 << 40, 0, 1 << 41, 1 << 40}, {1 << 42, 0, 1 << 41, 1 << 41}, {0, 1 << 41, 1 << 42, 1 << 41},
		{math.MaxInt, math.MinInt, math.MaxInt, math.MaxInt}, {math.MinInt, math.MinInt, math.MaxInt, math.MinInt}, {math.MinInt, -1 << 50, 0, -1 << 50},
	})
}

// P1.4
func TestLerp(t *testing.T) {
	checkTernary(t, "Lerp", fixed.Lerp, wantLerp, []ternary{
		{0, 4 * one, one / 4, one}, {one, 3 * one, one / 2, 2 * one}, {3 * one, one, one / 4, 5 * one / 2}, {one, 3 * one, 0, one}, {one, 3 * one, one, 3 * one},
		{0, one, 2 * one, 2 * one}, {0, one, -one, -one}, {5, 5, 12345, 5},
		{10, 11, one / 2, 11}, {10, 9, one / 2, 9}, {10, 11, one/2 - 1, 10},
		// The difference saturates, so that the far end is not reached.
		{-most, most, one, 0}, {most, -most, one, 0}, {most, 0, -one, most},
		{math.MaxInt, 0, one / 2, 1<<28 - 1}, {math.MinInt, 0, one / 2, 1 - 1<<28}, {0, math.MaxInt, math.MaxInt, most}, {math.MinInt, math.MaxInt, math.MinInt, -most},
	})
}

// P1.5
func TestRoundDivIsNearest(t *testing.T) {
	numbers := samples()
	for _, n := range numbers {
		for _, d := range numbers {
			if !inOperandRange(d, 1) || !inOperandRange(n, -1<<62) {
				continue
			}
			gap := new(big.Int).Mul(bigInt(fixed.RoundDiv(n, d)), bigInt(d))
			gap.Sub(gap, bigInt(n))
			if gap.Lsh(gap, 1).CmpAbs(bigInt(d)) > 0 {
				t.Fatalf("RoundDiv(%d, %d) = %d", n, d, fixed.RoundDiv(n, d))
			}
		}
	}
}

// P1.5
func TestAddAndMulCommute(t *testing.T) {
	numbers := samples()
	for _, a := range numbers {
		for _, b := range numbers {
			if fixed.Add(a, b) != fixed.Add(b, a) || fixed.Mul(a, b) != fixed.Mul(b, a) {
				t.Fatalf("%d, %d: sums %d, %d, products %d, %d", a, b, fixed.Add(a, b), fixed.Add(b, a), fixed.Mul(a, b), fixed.Mul(b, a))
			}
		}
	}
}
