package clip_test

import (
	"math"
	"slices"
	"testing"

	"carom/api"
	"carom/clip"
	"carom/sat"
)

const (
	one   = api.One
	half  = api.One / 2
	limit = api.MaxCoordinate
	most  = api.MaxValue
	far   = 1 << 40
	low   = math.MinInt
	high  = math.MaxInt
)

type (
	core = []api.Vec
	line = []clip.Vertex
)

// The arguments of one call.
type (
	cutting struct {
		segment        line
		origin, normal api.Vec
	}
	facing struct {
		a core
		i int
		b core
		k int
	}
)

// row is a row of a table: the arguments and the vertices that the chapter asks for.
type row[A any] struct {
	args A
	want line
}

func vec(x, y int) api.Vec {
	return api.Vec{X: x, Y: y}
}

func plus(a, b api.Vec) api.Vec {
	return vec(a.X+b.X, a.Y+b.Y)
}

// path makes a core of pairs of coordinates.
func path(coordinates ...int) core {
	var list core
	for i := 0; i+1 < len(coordinates); i += 2 {
		list = append(list, vec(coordinates[i], coordinates[i+1]))
	}
	return list
}

// units makes a core of pairs of coordinates in whole units.
func units(coordinates ...int) core {
	list := path(coordinates...)
	for i, v := range list {
		list[i] = vec(v.X*one, v.Y*one)
	}
	return list
}

// moved is the core with all vertices moved by shift.
func moved(list core, shift api.Vec) core {
	list = slices.Clone(list)
	for i, v := range list {
		list[i] = plus(v, shift)
	}
	return list
}

// fine makes a list of vertices of two coordinates and a number each.
func fine(numbers ...int) line {
	var list line
	for i := 0; i+2 < len(numbers); i += 3 {
		list = append(list, clip.Vertex{Point: vec(numbers[i], numbers[i+1]), ID: numbers[i+2]})
	}
	return list
}

// whole is like fine, but with coordinates in whole units.
func whole(numbers ...int) line {
	list := fine(numbers...)
	for i, v := range list {
		list[i].Point = vec(v.Point.X*one, v.Point.Y*one)
	}
	return list
}

// ends makes the two vertices that ToEdge numbers.
func ends(first, second api.Vec) line {
	return line{{Point: first, ID: 0}, {Point: second, ID: 1}}
}

// edge makes the two vertices that ToEdge numbers, of coordinates in whole units.
func edge(x, y, z, w int) line {
	return ends(vec(x*one, y*one), vec(z*one, w*one))
}

// The square with side 4, the triangle with the sides 3, 4 and 5, and the segment between two corners of the square.
func block() core {
	return units(0, 0, 4, 0, 4, 4, 0, 4)
}

func triangle() core {
	return units(0, 0, 3, 0, 3, 4)
}

func base() core {
	return units(0, 0, 4, 0)
}

// wound is the square with vertex 1 twice, so that edge 1 leads nowhere.
func wound() core {
	return units(0, 0, 4, 0, 4, 0, 4, 4, 0, 4)
}

// arch is a convex core with any number of vertices, which lie on a parabola.
func arch(count int) core {
	var list core
	for x := range count {
		list = append(list, vec(x, x*x))
	}
	return list
}

func halfPlane(c cutting) line {
	return clip.HalfPlane(c.segment, c.origin, c.normal)
}

func toEdge(f facing) line {
	return clip.ToEdge(f.a, f.i, f.b, f.k)
}

// same tells whether two lists have the same vertices; the chapter asks for nil where there are none.
func same(a, b line) bool {
	return (a == nil) == (b == nil) && slices.Equal(a, b)
}

// check compares call with the rows and, on the samples, with oracle, which is held against the rows as well.
func check[A any](t *testing.T, name string, call, oracle func(A) line, rows []row[A], samples []A) {
	t.Helper()
	for _, r := range rows {
		if got := call(r.args); !same(got, r.want) {
			t.Errorf("%s%v = %v, want %v", name, r.args, got, r.want)
		}
		if expected := oracle(r.args); !same(expected, r.want) {
			t.Errorf("%s%v: the oracle says %v, the row %v", name, r.args, expected, r.want)
		}
	}
	for _, args := range samples {
		if got, want := call(args), oracle(args); !same(got, want) {
			t.Fatalf("%s%v = %v, want %v", name, args, got, want)
		}
	}
}

// P15.1
func TestHalfPlane(t *testing.T) {
	center, right, up := vec(0, 0), vec(one, 0), vec(0, one)
	check(t, "HalfPlane", halfPlane, wantHalfPlane, []row[cutting]{
		// The chapter's example.
		{cutting{whole(-1, 0, 4, 1, 0, 5), center, right}, whole(-1, 0, 4, 0, 0, 5)},
		// Both vertices on the kept side.
		{cutting{whole(-3, 2, 4, -1, -4, 5), center, right}, whole(-3, 2, 4, -1, -4, 5)},
		{cutting{whole(-1, -4, 5, -3, 2, 4), center, right}, whole(-1, -4, 5, -3, 2, 4)},
		{cutting{fine(-1, 0, 4, -1, 1, 5), center, right}, fine(-1, 0, 4, -1, 1, 5)},
		{cutting{whole(3, -1, 4, -9, -2, 5), center, up}, whole(3, -1, 4, -9, -2, 5)},
		// Both beyond it.
		{cutting{whole(1, 1, 4, 2, -5, 5), center, right}, nil},
		{cutting{whole(2, -5, 4, 1, 1, 5), center, right}, nil},
		{cutting{fine(1, 0, 4, 1, 9, 5), center, right}, nil},
		{cutting{whole(-1, 1, 4, -9, 2, 5), center, up}, nil},
		// The first alone beyond it.
		{cutting{whole(3, 0, 4, -1, 0, 5), center, right}, whole(0, 0, 4, -1, 0, 5)},
		{cutting{whole(2, 6, 9, -2, -6, 3), center, right}, whole(0, 0, 9, -2, -6, 3)},
		{cutting{whole(3, 9, 9, -1, 1, 3), center, right}, whole(0, 3, 9, -1, 1, 3)},
		{cutting{whole(5, 8, 9, 9, -8, 3), center, up}, whole(7, 0, 9, 9, -8, 3)},
		{cutting{fine(1, 0, 4, -1, 0, 5), center, right}, fine(0, 0, 4, -1, 0, 5)},
		// The second alone.
		{cutting{whole(-2, -6, 3, 2, 6, 9), center, right}, whole(-2, -6, 3, 0, 0, 9)},
		{cutting{whole(-1, 1, 3, 3, 9, 9), center, right}, whole(-1, 1, 3, 0, 3, 9)},
		{cutting{whole(9, -8, 3, 5, 8, 9), center, up}, whole(9, -8, 3, 7, 0, 9)},
		{cutting{whole(0, -1, 3, 2, 3, 9), center, up}, fine(0, -one, 3, half, 0, 9)},
		// A vertex on the border is kept as it is, whatever the other one is.
		{cutting{whole(0, 5, 7, -3, 1, 8), center, right}, whole(0, 5, 7, -3, 1, 8)},
		{cutting{whole(-3, 1, 8, 0, 5, 7), center, right}, whole(-3, 1, 8, 0, 5, 7)},
		{cutting{whole(0, 5, 7, 3, 1, 8), center, right}, whole(0, 5, 7, 0, 5, 8)},
		{cutting{whole(3, 1, 8, 0, 5, 7), center, right}, whole(0, 5, 8, 0, 5, 7)},
		{cutting{fine(1, 0, 8, 0, 9, 7), center, right}, fine(0, 9, 8, 0, 9, 7)},
		{cutting{whole(0, 5, 7, 0, -5, 8), center, right}, whole(0, 5, 7, 0, -5, 8)},
		{cutting{whole(5, 0, 7, -5, 0, 8), center, up}, whole(5, 0, 7, -5, 0, 8)},
		// Vertices that coincide.
		{cutting{whole(-1, 2, 4, -1, 2, 5), center, right}, whole(-1, 2, 4, -1, 2, 5)},
		{cutting{whole(0, 2, 4, 0, 2, 5), center, right}, whole(0, 2, 4, 0, 2, 5)},
		{cutting{whole(1, 2, 4, 1, 2, 5), center, right}, nil},
		{cutting{whole(1, 2, 4, 1, 2, 5), vec(one, 2*one), right}, whole(1, 2, 4, 1, 2, 5)},
		// The normal is the zero vector.
		{cutting{whole(5, 5, 4, -5, -5, 5), center, center}, whole(5, 5, 4, -5, -5, 5)},
		{cutting{whole(5, 5, 4, 5, 5, 5), vec(high, low), center}, whole(5, 5, 4, 5, 5, 5)},
		// Equal numbers, and any others.
		{cutting{whole(-1, 0, 6, 1, 0, 6), center, right}, whole(-1, 0, 6, 0, 0, 6)},
		{cutting{whole(1, 0, 0, -1, 0, 0), center, right}, whole(0, 0, 0, -1, 0, 0)},
		{cutting{whole(1, 0, 6, 2, 0, 6), center, right}, nil},
		{cutting{whole(1, 0, -3, -1, 0, -8), center, right}, whole(0, 0, -3, -1, 0, -8)},
		{cutting{whole(-1, 0, -8, 1, 0, -3), center, right}, whole(-1, 0, -8, 0, 0, -3)},
		{cutting{whole(1, 0, low, -1, 0, high), center, right}, whole(0, 0, low, -1, 0, high)},
		{cutting{whole(-1, 0, high, -1, 0, low), center, right}, whole(-1, 0, high, -1, 0, low)},
		// Other origins.
		{cutting{whole(0, 0, 1, 4, 4, 2), vec(one, 7*one), right}, whole(0, 0, 1, 1, 1, 2)},
		{cutting{whole(0, 0, 1, 4, 4, 2), vec(7*one, one), up}, whole(0, 0, 1, 1, 1, 2)},
		{cutting{whole(0, 0, 1, 4, 4, 2), vec(-one, 7*one), right}, nil},
		{cutting{whole(0, 0, 1, 4, 4, 2), vec(4*one, 7*one), right}, whole(0, 0, 1, 4, 4, 2)},
		// Other normals.
		{cutting{whole(0, 0, 1, 4, 4, 2), vec(one, 7*one), vec(-one, 0)}, whole(1, 1, 1, 4, 4, 2)},
		{cutting{whole(0, 0, 1, 4, 4, 2), vec(7*one, one), vec(0, -one)}, whole(1, 1, 1, 4, 4, 2)},
		{cutting{whole(0, 0, 1, 6, 8, 2), vec(3*one, 4*one), vec(39322, 52429)}, whole(0, 0, 1, 3, 4, 2)},
		{cutting{whole(0, 0, 1, 6, 8, 2), vec(-one, 7*one), vec(39322, 52429)}, whole(0, 0, 1, 3, 4, 2)},
		{cutting{whole(4, 0, 1, 0, 4, 2), center, vec(one, -one)}, whole(2, 2, 1, 0, 4, 2)},
		{cutting{whole(4, 0, 1, 0, 4, 2), center, vec(3*one, -one)}, whole(1, 3, 1, 0, 4, 2)},
		{cutting{whole(4, 0, 1, 0, 4, 2), center, vec(1, -1)}, whole(2, 2, 1, 0, 4, 2)},
		{cutting{whole(4, 0, 1, 0, 4, 2), center, vec(-most, most)}, whole(4, 0, 1, 2, 2, 2)},
	}, cuttings())
}

// P15.1: the distances from the border, the fraction of the way and the way to the border are rounded, in this order.
func TestHalfPlaneRounds(t *testing.T) {
	center, right := vec(0, 0), vec(one, 0)
	check(t, "HalfPlane", halfPlane, wantHalfPlane, []row[cutting]{
		// The fraction 2/3 is rounded up, 1/3 down.
		{cutting{whole(2, 0, 1, -1, 300, 2), center, right}, fine(-1, 13107300, 1, -one, 300*one, 2)},
		{cutting{whole(-1, 300, 1, 2, 0, 2), center, right}, fine(-one, 300*one, 1, -1, 13107300, 2)},
		{cutting{whole(1, 0, 1, -2, 300, 2), center, right}, fine(1, 6553500, 1, -2*one, 300*one, 2)},
		// So is the way.
		{cutting{fine(1, 0, 1, -2, 8, 2), center, right}, fine(0, 3, 1, -2, 8, 2)},
		{cutting{fine(1, 0, 1, -1, 3, 2), center, right}, fine(0, 2, 1, -1, 3, 2)},
		{cutting{fine(1, 0, 1, -1, -3, 2), center, right}, fine(0, -2, 1, -1, -3, 2)},
		{cutting{fine(1, 3, 1, -1, 0, 2), center, right}, fine(0, 1, 1, -1, 0, 2)},
		// A fraction that is rounded to 0 keeps the vertex, one that is rounded to One takes the other.
		{cutting{fine(1, 0, 1, -9*one, 9*one, 2), center, right}, fine(1, 0, 1, -9*one, 9*one, 2)},
		{cutting{fine(9*one, 9*one, 1, -1, 0, 2), center, right}, fine(-1, 0, 1, -1, 0, 2)},
		// With short normals the distances from the border are rounded: here to 0 and 1, -1 and 1, 0 and 0.
		{cutting{fine(half-1, 0, 1, half, 5, 2), center, vec(1, 0)}, fine(half-1, 0, 1, half-1, 0, 2)},
		{cutting{fine(-half, 0, 1, half, 3, 2), center, vec(1, 0)}, fine(-half, 0, 1, 0, 1, 2)},
		{cutting{fine(1-half, 0, 1, half-1, 3, 2), center, vec(1, 0)}, fine(1-half, 0, 1, half-1, 3, 2)},
		{cutting{fine(half, 0, 1, half, 3, 2), center, vec(1, 0)}, nil},
		// The sum is rounded, not the products.
		{cutting{fine(half-1, 1, 1, 0, 9, 2), center, vec(1, 1)}, fine(0, 9, 1, 0, 9, 2)},
	}, nil)
}

// P15.1
func TestHalfPlaneOfOtherThanTwoVertices(t *testing.T) {
	center, right := vec(0, 0), vec(one, 0)
	many := make(line, 1000)
	check(t, "HalfPlane", halfPlane, wantHalfPlane, []row[cutting]{
		{cutting{nil, center, right}, nil},
		{cutting{nil, center, center}, nil},
		{cutting{line{}, center, right}, nil},
		{cutting{whole(-1, 0, 4, 1, 0, 5)[:0], center, right}, nil},
		{cutting{whole(-1, 0, 4), center, right}, nil},
		{cutting{whole(-1, 0, 4, 1, 0, 5)[:1], center, right}, nil},
		{cutting{whole(-1, 0, 4, 1, 0, 5)[1:], center, right}, nil},
		{cutting{whole(-1, 0, 4, 1, 0, 5, 2, 0, 6), center, right}, nil},
		{cutting{whole(-1, 0, 4, -2, 0, 5, -3, 0, 6), center, right}, nil},
		{cutting{whole(-1, 0, 4, -1, 0, 4, -1, 0, 4), center, center}, nil},
		{cutting{whole(-1, 0, 4, -2, 0, 5, -3, 0, 6, -4, 0, 7), center, right}, nil},
		{cutting{many, center, right}, nil},
		// Two of three are two.
		{cutting{whole(-1, 0, 4, 1, 0, 5, 2, 0, 6)[:2], center, right}, whole(-1, 0, 4, 0, 0, 5)},
		{cutting{whole(-1, 0, 4, 1, 0, 5, -1, 0, 6)[1:], center, right}, whole(0, 0, 5, -1, 0, 6)},
	}, nil)
}

// P15.1: the points, the normal and what is made of them are saturated, but not the difference of the two distances, nor a point that is kept.
func TestHalfPlaneSaturates(t *testing.T) {
	center, right := vec(0, 0), vec(one, 0)
	check(t, "HalfPlane", halfPlane, wantHalfPlane, []row[cutting]{
		// The difference is exact: the fractions are 1/2 and about 2/3, they would be One.
		{cutting{fine(1<<28, 0, 1, -1<<28, 0, 2), center, vec(4*one, 0)}, fine(0, 0, 1, -1<<28, 0, 2)},
		{cutting{fine(-1<<28, 0, 1, 1<<28, 0, 2), center, vec(4*one, 0)}, fine(-1<<28, 0, 1, 0, 0, 2)},
		{cutting{fine(1<<27, 0, 1, -1<<26, 0, 2), center, vec(4*one, 0)}, fine(-1024, 0, 1, -1<<26, 0, 2)},
		{cutting{fine(1, 0, 1, -1, 0, 2), center, vec(most, 0)}, fine(0, 0, 1, -1, 0, 2)},
		// The way to the other vertex is saturated.
		{cutting{fine(most, 0, 1, -most, 0, 2), center, right}, fine(268435455, 0, 1, -most, 0, 2)},
		{cutting{fine(most, most, 1, -most, -most, 2), center, vec(one, one)}, fine(268435455, 268435455, 1, -most, -most, 2)},
		{cutting{fine(high, 0, 1, -one, 0, 2), center, right}, fine(one, 0, 1, -one, 0, 2)},
		// Points that are kept stay as they are, those that are moved are saturated.
		{cutting{fine(low, high, 1, 0, 0, 2), center, right}, fine(low, high, 1, 0, 0, 2)},
		{cutting{fine(-far, far, 1, -1, low, 2), center, right}, fine(-far, far, 1, -1, low, 2)},
		{cutting{fine(0, high, 1, 0, low, 2), center, right}, fine(0, high, 1, 0, low, 2)},
		{cutting{fine(0, far, 1, one, 0, 2), center, right}, fine(0, far, 1, 0, most, 2)},
		{cutting{fine(one, 0, 2, 0, -far, 1), center, right}, fine(0, -most, 2, 0, -far, 1)},
		{cutting{fine(high, 3*one, 1, low, -5*one, 2), center, right}, fine(268435455, -one, 1, low, -5*one, 2)},
		{cutting{fine(low, -5*one, 1, high, 3*one, 2), center, right}, fine(low, -5*one, 1, 268435455, -one, 2)},
		{cutting{fine(most+1, most+2, 1, most+3, most+4, 2), center, center}, fine(most+1, most+2, 1, most+3, most+4, 2)},
		{cutting{fine(far, 0, 1, high, 0, 2), center, right}, nil},
		// The origin.
		{cutting{fine(high, 0, 1, far, 7, 2), vec(2*far, 0), right}, fine(high, 0, 1, far, 7, 2)},
		{cutting{fine(high, 0, 1, far, 7, 2), vec(most-1, 0), right}, nil},
		{cutting{fine(most, 0, 1, 0, 1, 2), vec(-far, 0), right}, nil},
		{cutting{fine(most, 0, 1, 0, 1, 2), vec(far, 0), vec(-one, 0)}, fine(most, 0, 1, most, 0, 2)},
		{cutting{fine(-most, 0, 1, -9, 1, 2), vec(high, 0), right}, fine(-most, 0, 1, -9, 1, 2)},
		// The normal.
		{cutting{fine(1, 0, 1, -1, 0, 2), center, vec(high, 0)}, fine(0, 0, 1, -1, 0, 2)},
		{cutting{fine(3, 0, 1, -1, 0, 2), center, vec(low, low)}, fine(3, 0, 1, 0, 0, 2)},
		{cutting{whole(4, 0, 1, 0, 4, 2), center, vec(high, -far)}, whole(2, 2, 1, 0, 4, 2)},
	}, nil)
}

// P15.1: the samples have vertices on either side of the border and on it in every combination.
func TestHalfPlaneSamples(t *testing.T) {
	counts := map[[2]int]int{}
	sign := func(x int) int { return min(max(x, -1), 1) }
	for _, c := range cuttings() {
		if len(c.segment) == 2 {
			d, e := wantBeyond(c.segment[0].Point, c.origin, c.normal), wantBeyond(c.segment[1].Point, c.origin, c.normal)
			counts[[2]int{sign(d), sign(e)}]++
		}
	}
	for d := -1; d <= 1; d++ {
		for e := -1; e <= 1; e++ {
			if n := counts[[2]int{d, e}]; n < 500 {
				t.Errorf("only %d segments have ends with the signs %d and %d", n, d, e)
			}
		}
	}
}

// P15.1: the two vertices are treated alike.
func TestHalfPlaneOfTheReversedSegment(t *testing.T) {
	for _, c := range cuttings() {
		reversed := cutting{slices.Clone(c.segment), c.origin, c.normal}
		slices.Reverse(reversed.segment)
		want := slices.Clone(halfPlane(c))
		slices.Reverse(want)
		if got := halfPlane(reversed); !slices.Equal(got, want) {
			t.Fatalf("HalfPlane%v = %v, but reversed %v", reversed, got, want)
		}
	}
}

// P15.1: the argument stays as it is, with what lies behind its length, and shares no memory with the result.
func TestSegmentStaysAsItIs(t *testing.T) {
	center, right := vec(0, 0), vec(one, 0)
	for _, list := range []line{
		whole(-3, 2, 1, -1, -4, 2, 7, 7, 3), whole(-1, 0, 1, 1, 0, 2, 7, 7, 3), whole(1, 0, 1, -1, 0, 2, 7, 7, 3),
		whole(0, 5, 1, 0, 4, 2, 7, 7, 3), whole(1, 0, 1, 2, 0, 2, 7, 7, 3), fine(low, high, 1, -far, 9, 2, 7, 7, 3),
	} {
		before := slices.Clone(list)
		got := clip.HalfPlane(list[:2], center, right)
		want := slices.Clone(got)
		if !slices.Equal(list, before) {
			t.Errorf("the vertices are %v now, they were %v", list, before)
		}
		clear(list)
		if !slices.Equal(got, want) {
			t.Errorf("HalfPlane of %v is %v after a write to the argument, it was %v", before, got, want)
		}
		copy(list, before)
		clear(append(got, clip.Vertex{ID: 9}))
		clear(got)
		if again := clip.HalfPlane(list[:2], center, right); !slices.Equal(list, before) || !slices.Equal(again, want) {
			t.Errorf("after a write to the result the vertices are %v and the result %v, they were %v and %v", list, again, before, want)
		}
	}
}

// P15.2
func TestToEdge(t *testing.T) {
	s := block()
	check(t, "ToEdge", toEdge, wantToEdge, []row[facing]{
		// Nothing is clipped.
		{facing{s, 0, units(3, -1, 1, -2), 0}, edge(3, -1, 1, -2)},
		{facing{s, 0, units(1, -2, 3, -1), 0}, edge(1, -2, 3, -1)},
		{facing{s, 0, units(4, -1, 0, -2), 0}, edge(4, -1, 0, -2)},
		{facing{s, 0, units(2, -1, 2, -5), 0}, edge(2, -1, 2, -5)},
		{facing{s, 0, units(4, -1, 4, -5), 0}, edge(4, -1, 4, -5)},
		{facing{s, 0, s, 0}, edge(0, 0, 4, 0)},
		{facing{s, 0, s, 2}, edge(4, 4, 0, 4)},
		// The start.
		{facing{s, 0, units(6, -1, 2, -3), 0}, edge(4, -2, 2, -3)},
		{facing{s, 0, units(-2, -3, 2, -1), 0}, edge(0, -2, 2, -1)},
		{facing{s, 0, units(9, -2, 4, -1), 0}, edge(4, -1, 4, -1)},
		{facing{s, 0, units(-3, -2, 0, -1), 0}, edge(0, -1, 0, -1)},
		// The end.
		{facing{s, 0, units(2, -1, -2, -3), 0}, edge(2, -1, 0, -2)},
		{facing{s, 0, units(2, -3, 6, -1), 0}, edge(2, -3, 4, -2)},
		{facing{s, 0, units(4, -1, 9, -2), 0}, edge(4, -1, 4, -1)},
		{facing{s, 0, units(0, -1, -3, -2), 0}, edge(0, -1, 0, -1)},
		// Both ends.
		{facing{s, 0, units(12, -1, -4, -9), 0}, edge(4, -5, 0, -7)},
		{facing{s, 0, units(-4, -9, 12, -1), 0}, edge(0, -7, 4, -5)},
		// Nothing is left.
		{facing{s, 0, units(5, -1, 9, -1), 0}, nil},
		{facing{s, 0, units(9, -1, 5, -3), 0}, nil},
		{facing{s, 0, units(-1, -1, -5, -2), 0}, nil},
		{facing{s, 0, units(-5, -1, -1, -2), 0}, nil},
		{facing{s, 0, units(5, -1, 5, -5), 0}, nil},
		{facing{s, 0, path(4*one+1, -one, 9*one, -one), 0}, nil},
		{facing{s, 0, path(-1, -one, -9*one, -one), 0}, nil},
		{facing{s, 1, s, 0}, edge(0, 0, 4, 0)},
		{facing{s, 1, moved(s, vec(0, 5*one)), 0}, nil},
		{facing{s, 1, moved(s, vec(5*one, -5*one)), 3}, nil},
		{facing{triangle(), 2, units(-5, 0, -9, 1), 0}, nil},
		// The strip has no end across the edge.
		{facing{s, 0, units(3, 1, 1, 2), 0}, edge(3, 1, 1, 2)},
		{facing{s, 0, units(12, 100, -4, 100), 0}, edge(4, 100, 0, 100)},
		{facing{s, 0, units(2, -900, 2, 900), 0}, edge(2, -900, 2, 900)},
		// The other edges of a: the last one leads to vertex 0.
		{facing{s, 1, units(5, 12, 13, -4), 0}, edge(9, 4, 11, 0)},
		{facing{s, 2, units(-8, 5, 8, 9), 0}, edge(0, 7, 4, 8)},
		{facing{s, 3, units(-1, -8, -9, 8), 0}, edge(-5, 0, -7, 4)},
		{facing{triangle(), 2, units(0, 1, 2, 4), 0}, edge(0, 1, 2, 4)},
		{facing{triangle(), 2, units(-5, 0, -1, 3), 0}, ends(vec(-5*half, 15*one/8), vec(-one, 3*one))},
		// The other edges of b.
		{facing{s, 0, units(-4, -9, 0, -20, 12, -1), 0}, edge(0, -20, 0, -20)},
		{facing{s, 0, units(0, -20, 8, -4, -4, -9), 0}, edge(0, -20, 4, -12)},
		{facing{s, 0, units(-4, -9, 0, -20, 12, -1), 2}, edge(4, -5, 0, -7)},
		{facing{s, 0, units(0, -20, 12, -1, -4, -9), 1}, edge(4, -5, 0, -7)},
		{facing{s, 0, units(1, -4, 3, -4, 3, -2, 1, -2), 3}, edge(1, -2, 1, -4)},
		// Two vertices have an edge in each direction.
		{facing{base(), 0, units(8, -1, 0, -5), 0}, edge(4, -3, 0, -5)},
		{facing{base(), 1, units(8, -1, -8, -9), 0}, edge(4, -3, 0, -5)},
		{facing{base(), 1, units(8, -1, -8, -9), 1}, edge(0, -5, 4, -3)},
		{facing{base(), 0, units(3, -1, 1, -2), 1}, edge(1, -2, 3, -1)},
		{facing{base(), 1, units(-5, -1, -9, 3), 1}, nil},
		// Clockwise, and more vertices than a polygon can have.
		{facing{units(0, 4, 4, 4, 4, 0, 0, 0), 2, units(8, -1, -8, -9), 0}, edge(4, -3, 0, -5)},
		{facing{arch(500), 499, arch(500), 250}, ends(vec(250, 62500), vec(251, 63001))},
		{facing{s, 0, arch(1000), 999}, ends(vec(999, 998001), vec(0, 0))},
	}, facings())
}

// P15.2: what is clipped is rounded, first at the end of the edge.
func TestToEdgeRounds(t *testing.T) {
	unit, tiny := units(0, 0, 1, 0, 1, 1, 0, 1), path(0, 0, 2, 0)
	check(t, "ToEdge", toEdge, wantToEdge, []row[facing]{
		{facing{triangle(), 2, units(4, 8, -6, -1), 0}, ends(vec(73483, 354493), vec(-174766, 131069))},
		{facing{triangle(), 2, units(-6, -1, 4, 8), 0}, ends(vec(-174766, 131069), vec(73483, 354493))},
		{facing{triangle(), 2, units(0, 6, 9, 9), 0}, ends(vec(0, 6*one), vec(15120, 398256))},
		{facing{units(0, 0, 3, 4), 0, units(8, 0, -3, 0, -3, 9), 0}, ends(vec(8*one, 0), vec(-5, 0))},
		{facing{units(0, 0, 3, 4), 1, units(8, 0, -3, 0, -3, 9), 1}, ends(vec(-3*one, 147456), vec(-3*one, 557059))},
		{facing{units(0, 0, 3, 4), 1, units(8, 0, -3, 0, -3, 9), 2}, ends(vec(283993, 196605), vec(8*one, 0))},
		{facing{path(0, 0, 1, 1), 0, path(5, 0, -5, 1), 0}, ends(vec(2, 0), vec(0, 0))},
		// The other order would give 65537 and 1.
		{facing{unit, 0, units(4, -2, -5, -2), 0}, ends(vec(65539, -2*one), vec(0, -2*one))},
		{facing{unit, 0, units(5, -2, -8, -1), 0}, ends(vec(65535, -110907), vec(-3, -105866))},
		// The end falls behind the start by rounding, so that nothing is left there. The other order would leave something.
		{facing{tiny, 0, units(39, -1, -59, -8), 0}, nil},
		{facing{tiny, 0, units(11, -1, -20, -1), 0}, nil},
	}, nil)
}

// P15.2
func TestToEdgeOfMissingEdges(t *testing.T) {
	s, b := block(), units(12, -1, -4, -9, 0, -20)
	var rows []row[facing]
	for _, n := range []int{-1, -2, -3, -4, -far, low, low + 1, 4, 5, 8, far, high - 1, high} {
		rows = append(rows, row[facing]{facing{s, n, b, 0}, nil}, row[facing]{facing{b, 0, s, n}, nil}, row[facing]{facing{s, n, s, n}, nil})
	}
	rows = append(rows, []row[facing]{
		// The number of vertices of a core, which another one could have.
		{facing{b, 3, s, 3}, nil},
		{facing{s, 3, b, 3}, nil},
		{facing{s[:3], 3, s, 0}, nil},
		{facing{s, 0, s[:3], 3}, nil},
		{facing{base(), 2, b, 0}, nil},
		{facing{s, 0, base(), 2}, nil},
		// No vertex, and one.
		{facing{nil, 0, nil, 0}, nil},
		{facing{nil, 0, b, 0}, nil},
		{facing{s, 0, nil, 0}, nil},
		{facing{core{}, 0, b, 0}, nil},
		{facing{s, 0, core{}, 0}, nil},
		{facing{s[:0], 0, b, 0}, nil},
		{facing{s, 0, b[:0], 0}, nil},
		{facing{nil, -1, b, 0}, nil},
		{facing{s, 0, nil, -1}, nil},
		{facing{nil, 1, b, 0}, nil},
		{facing{s, 0, nil, high}, nil},
		{facing{s[:1], 0, b, 0}, nil},
		{facing{s, 0, b[:1], 0}, nil},
		{facing{s[:1], 1, b, 0}, nil},
		{facing{s, 0, b[:1], 1}, nil},
		{facing{s[:1], -1, b, 0}, nil},
		{facing{s, 0, b[:1], -1}, nil},
		{facing{s[:1], 0, s[:1], 0}, nil},
		{facing{units(3, -1), 0, units(3, -1), 0}, nil},
		// Two are enough.
		{facing{s[:2], 0, b[:2], 0}, edge(4, -5, 0, -7)},
		{facing{s[:2], 0, b[:2], 1}, edge(0, -7, 4, -5)},
	}...)
	check(t, "ToEdge", toEdge, wantToEdge, rows, nil)
}

// P15.2: an edge of a that leads nowhere has no direction and clips nothing; one of b is a point twice.
func TestToEdgeOfVerticesThatCoincide(t *testing.T) {
	s := block()
	check(t, "ToEdge", toEdge, wantToEdge, []row[facing]{
		{facing{wound(), 1, units(12, -1, -4, -9), 0}, edge(12, -1, -4, -9)},
		{facing{wound(), 0, units(12, -1, -4, -9), 0}, edge(4, -5, 0, -7)},
		{facing{wound(), 2, units(5, 12, 13, -4), 0}, edge(9, 4, 11, 0)},
		{facing{units(2, 2, 2, 2), 0, units(12, -1, -4, -9), 0}, edge(12, -1, -4, -9)},
		{facing{units(2, 2, 2, 2), 1, units(12, -1, -4, -9), 1}, edge(-4, -9, 12, -1)},
		{facing{units(0, 0, 3, 4, 0, 0), 2, path(far, low, low, far), 0}, ends(vec(far, low), vec(low, far))},
		{facing{s, 0, units(1, -1, 1, -1), 0}, edge(1, -1, 1, -1)},
		{facing{s, 0, units(4, -1, 4, -1), 1}, edge(4, -1, 4, -1)},
		{facing{s, 0, units(0, -1, 0, -1), 1}, edge(0, -1, 0, -1)},
		{facing{s, 0, units(5, -1, 5, -1), 0}, nil},
		{facing{s, 0, units(-1, -1, -1, -1), 0}, nil},
		{facing{s, 1, wound(), 1}, edge(4, 0, 4, 0)},
		{facing{s, 3, wound(), 1}, edge(4, 0, 4, 0)},
		{facing{s, 2, units(9, 9, 9, 1, 9, 1), 1}, nil},
		{facing{units(7, 7, 7, 7), 0, units(5, -1, 5, -1), 0}, edge(5, -1, 5, -1)},
	}, nil)
}

// P15.2: what HalfPlane and EdgeDirection saturate is saturated, but not a vertex that is kept.
func TestToEdgeSaturates(t *testing.T) {
	s := block()
	check(t, "ToEdge", toEdge, wantToEdge, []row[facing]{
		{facing{s, 0, path(one, low, 2*one, high), 0}, ends(vec(one, low), vec(2*one, high))},
		{facing{s, 0, path(one, low, 2*one, high), 1}, ends(vec(2*one, high), vec(one, low))},
		{facing{s, 0, path(far, -one, -far, -one), 0}, ends(vec(268500991, -one), vec(-178987008, -one))},
		{facing{s, 0, path(-far, -one, far, -one), 0}, ends(vec(-178987008, -one), vec(268500991, -one))},
		{facing{s, 0, path(low, low, high, high), 0}, ends(vec(-178987008, -178987008), vec(268500991, 268500991))},
		{facing{s, 0, path(high, low, low, high), 0}, ends(vec(268500991, -268500991), vec(-178987008, 178987008))},
		{facing{s, 0, path(most, 0, 0, -one), 0}, ends(vec(4*one, -65504), vec(0, -one))},
		{facing{s, 0, path(far, 0, high, 0), 0}, nil},
		// The reference edge.
		{facing{path(low, 0, high, 0), 0, units(1, 1, 2, 2), 0}, edge(1, 1, 2, 2)},
		{facing{path(low, 0, high, 0), 0, path(low, 5, high, 5), 0}, ends(vec(low, 5), vec(high, 5))},
		{facing{path(high, 3, far, 3), 0, units(9, 1, -9, 2), 0}, edge(9, 1, -9, 2)},
		{facing{path(-most, 0, most, 0), 0, path(-most, 7, most, 9), 0}, ends(vec(-most, 7), vec(most, 9))},
		{facing{path(0, 0, most, 0), 0, path(-most, 7, most, 9), 0}, ends(vec(-268435455, 8), vec(most, 9))},
		{facing{path(far, 0, far, 9), 0, path(high, low, low, high), 0}, ends(vec(178954240, -178954240), vec(-268435455, 268435455))},
	}, nil)
}

// outcome tells which vertices of an edge were moved by clipping, or that nothing is left.
func outcome(f facing, got line) string {
	from, to, ok := wantEdge(f.b, f.k)
	if _, _, found := wantEdge(f.a, f.i); !ok || !found {
		return "missing"
	}
	if got == nil {
		return "nothing left"
	}
	return map[[2]bool]string{
		{true, true}: "nothing", {false, true}: "the start", {true, false}: "the end", {false, false}: "both ends",
	}[[2]bool{got[0].Point == from, got[1].Point == to}]
}

// P15.2: the samples have edges of every outcome.
func TestToEdgeSamples(t *testing.T) {
	counts := map[string]int{}
	for _, f := range facings() {
		counts[outcome(f, toEdge(f))]++
	}
	for _, name := range []string{"missing", "nothing left", "nothing", "the start", "the end", "both ends"} {
		if counts[name] < 500 {
			t.Errorf("the outcome %q has only %d samples", name, counts[name])
		}
	}
}

// P15.2: clipping goes by HalfPlane, first at the end and then at the start.
func TestToEdgeIsTwoHalfPlanes(t *testing.T) {
	for _, f := range facings() {
		start, end, ok := wantEdge(f.a, f.i)
		from, to, found := wantEdge(f.b, f.k)
		var want line
		if ok && found {
			d := sat.EdgeDirection(f.a, f.i)
			want = clip.HalfPlane(ends(from, to), end, d)
			want = clip.HalfPlane(want, start, vec(-d.X, -d.Y))
		}
		if got := toEdge(f); !same(got, want) {
			t.Fatalf("ToEdge%v = %v, want %v", f, got, want)
		}
	}
}

// along is the place of a point along the way from start to end: 0 beside the start and the returned length squared beside the end, without rounding.
func along(start, end, p api.Vec) (place, square int) {
	e := vec(end.X-start.X, end.Y-start.Y)
	return e.X*(p.X-start.X) + e.Y*(p.Y-start.Y), e.X*e.X + e.Y*e.Y
}

// P15.2: of two polygons within the limits, what is left of an edge lies beside the other one, and what is cut off does not, but for the rounding.
func TestClippedEdgesLieBesideTheReference(t *testing.T) {
	const slack = 200
	dice, left, gone := newDice(3), 0, 0
	for range 20000 {
		a, b := dice.polygon(limit), dice.polygon(limit)
		b = moved(b, dice.point(2*limit))
		i, _ := sat.MaxSeparation(a, b)
		k := sat.IncidentEdge(b, sat.EdgeNormal(a, i))
		start, end, _ := wantEdge(a, i)
		from, to, _ := wantEdge(b, k)
		first, square := along(start, end, from)
		second, _ := along(start, end, to)
		// In the units of along.
		width := slack * (1 + int(math.Sqrt(float64(square))))
		got := clip.ToEdge(a, i, b, k)
		if got == nil {
			gone++
			if min(first, second) < square-width && max(first, second) > width {
				t.Fatalf("nothing is left of %v and %v beside %v and %v", from, to, start, end)
			}
			continue
		}
		left++
		for n, place := range []int{first, second} {
			now, _ := along(start, end, got[n].Point)
			if want := min(max(place, 0), square); now < want-width || now > want+width {
				t.Fatalf("vertex %d of %v and %v is clipped to %v beside %v and %v", n, from, to, got[n].Point, start, end)
			}
		}
	}
	if min(left, gone) < 2000 {
		t.Errorf("something was left %d times, and nothing %d times", left, gone)
	}
}

// P15.2: what is left of an edge lies on it, but for the rounding.
func TestClippedEdgesLieOnTheEdge(t *testing.T) {
	dice := newDice(4)
	for range 20000 {
		a, b := dice.polygon(limit), moved(dice.polygon(limit), dice.point(limit))
		f := facing{a, dice.source.Intn(len(a)), b, dice.source.Intn(len(b))}
		from, to, _ := wantEdge(f.b, f.k)
		for _, v := range toEdge(f) {
			inside := v.Point.X >= min(from.X, to.X)-1 && v.Point.X <= max(from.X, to.X)+1 &&
				v.Point.Y >= min(from.Y, to.Y)-1 && v.Point.Y <= max(from.Y, to.Y)+1
			way := vec(to.X-from.X, to.Y-from.Y)
			area := way.X*(v.Point.Y-from.Y) - way.Y*(v.Point.X-from.X)
			if away := math.Abs(float64(area)) / math.Hypot(float64(way.X), float64(way.Y)); !inside || away > 1 {
				t.Fatalf("ToEdge%v has the vertex %v, which is not on the edge", f, v)
			}
		}
	}
}

// P15.3
func TestToEdgeReturnsNilOrTwoNumbers(t *testing.T) {
	for _, f := range facings() {
		got := toEdge(f)
		if got != nil && (len(got) != 2 || got[0].ID == got[1].ID) {
			t.Fatalf("ToEdge%v = %v", f, got)
		}
		if got != nil && (got[0].ID != 0 || got[1].ID != 1) {
			t.Fatalf("ToEdge%v = %v, want the numbers 0 and 1 in order", f, got)
		}
	}
}

// P15.2: the vertices stay as they are, those behind the length of a core are not seen, and results do not hang on one another.
func TestPolygonsStayAsTheyAre(t *testing.T) {
	a, b := append(block(), units(9, 9, -7, 3)...), append(units(12, -1, -4, -9, 0, -20), units(2, -3, 7, 7)...)
	a0, b0 := slices.Clone(a), slices.Clone(b)
	for i := -1; i <= len(a); i++ {
		for k := -1; k <= len(b); k++ {
			f := facing{a[:4], i, b[:3], k}
			got, alone := toEdge(f), toEdge(facing{slices.Clip(block()), i, slices.Clone(b[:3:3]), k})
			if !same(got, alone) {
				t.Errorf("ToEdge%v depends on what lies behind the cores", f)
			}
			if !slices.Equal(a, a0) || !slices.Equal(b, b0) {
				t.Fatalf("ToEdge%v changes its arguments to %v and %v", f, a, b)
			}
			clear(a)
			clear(b)
			if !same(got, alone) {
				t.Errorf("ToEdge%v is %v after a write to the arguments, it was %v", f, got, alone)
			}
			copy(a, a0)
			copy(b, b0)
			clear(got)
			if again := toEdge(f); !same(again, alone) || !slices.Equal(a, a0) || !slices.Equal(b, b0) {
				t.Errorf("ToEdge%v is %v after a write to the result, it was %v", f, again, alone)
			}
		}
	}
}
