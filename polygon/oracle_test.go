package polygon_test

import (
	"math/big"
	"math/rand"
	"slices"

	"carom/api"
)

// The functions of this file work the promised values out in other ways than the package, by integers of any size and without its lower layers.

func bigInt(x int) *big.Int {
	return big.NewInt(int64(x))
}

func saturated(x int) int {
	return min(max(x, -api.MaxValue), api.MaxValue)
}

// cross is the cross product of the ways from a to b and from a to c, which is twice the area of the triangle.
func cross(a, b, c api.Vec) *big.Int {
	difference := func(x, y int) *big.Int {
		return new(big.Int).Sub(bigInt(x), bigInt(y))
	}
	first := new(big.Int).Mul(difference(b.X, a.X), difference(c.Y, a.Y))
	return first.Sub(first, new(big.Int).Mul(difference(b.Y, a.Y), difference(c.X, a.X)))
}

// roundBig divides n by the positive d and rounds halves away from zero.
func roundBig(n, d *big.Int) *big.Int {
	quotient := new(big.Int).Lsh(new(big.Int).Abs(n), 1)
	quotient.Add(quotient, d)
	quotient.Div(quotient, new(big.Int).Lsh(d, 1))
	if n.Sign() < 0 {
		quotient.Neg(quotient)
	}
	return quotient
}

func inRange(points []api.Vec) bool {
	return !slices.ContainsFunc(points, func(v api.Vec) bool {
		return v.X < -limit || v.X > limit || v.Y < -limit || v.Y > limit
	})
}

// wantIsConvex looks at every three vertices in their order instead of at edges: they all turn left exactly if the list leads once around a convex polygon.
func wantIsConvex(vertices []api.Vec) bool {
	if len(vertices) < 3 || len(vertices) > 8 || !inRange(vertices) {
		return false
	}
	for k, c := range vertices {
		for j, b := range vertices[:k] {
			for _, a := range vertices[:j] {
				if cross(a, b, c).Sign() <= 0 {
					return false
				}
			}
		}
	}
	return true
}

// wantSums are the sum of all k and the sums of all (e+f)*k.
func wantSums(vertices []api.Vec) (k, x, y *big.Int) {
	k, x, y = new(big.Int), new(big.Int), new(big.Int)
	first := vertices[0]
	for i, f := range vertices[2:] {
		e := vertices[i+1]
		part := roundBig(cross(first, e, f), bigInt(one))
		k.Add(k, part)
		x.Add(x, new(big.Int).Mul(bigInt(e.X+f.X-2*first.X), part))
		y.Add(y, new(big.Int).Mul(bigInt(e.Y+f.Y-2*first.Y), part))
	}
	return k, x, y
}

func wantArea(vertices []api.Vec) int {
	if !wantIsConvex(vertices) {
		return 0
	}
	k, _, _ := wantSums(vertices)
	return int(roundBig(k, bigInt(2)).Int64())
}

func wantCentroid(vertices []api.Vec) api.Vec {
	if !wantIsConvex(vertices) {
		return api.Vec{}
	}
	k, x, y := wantSums(vertices)
	if k.Sign() == 0 {
		return vertices[0]
	}
	k.Mul(k, bigInt(3))
	return plus(vertices[0], vec(int(roundBig(x, k).Int64()), int(roundBig(y, k).Int64())))
}

func wantShortestEdge(vertices []api.Vec) int {
	if !wantIsConvex(vertices) {
		return 0
	}
	var squares []int
	for i, v := range vertices {
		w := vertices[(i+1)%len(vertices)]
		squares = append(squares, (v.X-w.X)*(v.X-w.X)+(v.Y-w.Y)*(v.Y-w.Y))
	}
	return int(new(big.Int).Sqrt(bigInt(slices.Min(squares))).Int64())
}

// wantConvexHull walks around the points: from each corner to the farthest of the points that leave all others to the left.
func wantConvexHull(points []api.Vec) []api.Vec {
	if len(points) < 1 || len(points) > 64 || !inRange(points) {
		return nil
	}
	first := slices.MinFunc(points, func(a, b api.Vec) int {
		if a.X != b.X {
			return a.X - b.X
		}
		return a.Y - b.Y
	})
	corners := []api.Vec{first}
	for {
		next := nextCorner(points, corners[len(corners)-1])
		if next == first {
			return corners
		}
		corners = append(corners, next)
	}
}

func nextCorner(points []api.Vec, corner api.Vec) api.Vec {
	next := corner
	for _, p := range points {
		side := cross(corner, next, p).Sign()
		if next == corner || side < 0 || side == 0 && manhattan(corner, p) > manhattan(corner, next) {
			next = p
		}
	}
	return next
}

func manhattan(a, b api.Vec) int {
	return max(a.X-b.X, b.X-a.X) + max(a.Y-b.Y, b.Y-a.Y)
}

// wantContains holds the triangles that v forms with the edges against the polygon: they cover more than the polygon exactly if v lies outside.
func wantContains(a aim) bool {
	if !wantIsConvex(a.points) {
		return false
	}
	v := vec(saturated(a.v.X), saturated(a.v.Y))
	covered, whole := new(big.Int), new(big.Int)
	for i, from := range a.points {
		to := a.points[(i+1)%len(a.points)]
		covered.Add(covered, new(big.Int).Abs(cross(v, from, to)))
		whole.Add(whole, cross(a.points[0], from, to))
	}
	return covered.Cmp(whole) == 0
}

func wantSupport(a aim) int {
	reach := func(p api.Vec) *big.Int {
		x := new(big.Int).Mul(bigInt(saturated(p.X)), bigInt(saturated(a.v.X)))
		return x.Add(x, new(big.Int).Mul(bigInt(saturated(p.Y)), bigInt(saturated(a.v.Y))))
	}
	return slices.IndexFunc(a.points, func(p api.Vec) bool {
		return !slices.ContainsFunc(a.points, func(q api.Vec) bool {
			return reach(q).Cmp(reach(p)) > 0
		})
	})
}

// dice draws numbers, the same ones for each seed.
type dice struct{ source *rand.Rand }

func newDice(seed int64) dice {
	return dice{rand.New(rand.NewSource(seed))}
}

// scale draws the size of the coordinates of one sample: the smallest give many points on one line, the largest fill the range of a polygon.
func (d dice) scale() int {
	sizes := []int{1, 2, 3, 5, 16, 200, 1000, one / 4, one, 7 * one, limit}
	return sizes[d.source.Intn(len(sizes))]
}

// number draws a number from -scale to scale.
func (d dice) number(scale int) int {
	return d.source.Intn(2*scale+1) - scale
}

func (d dice) point(scale int) api.Vec {
	return vec(d.number(scale), d.number(scale))
}

func (d dice) points(count, scale int) []api.Vec {
	var list []api.Vec
	for range count {
		list = append(list, d.point(scale))
	}
	return list
}

// number of any size up to the ends of the ints.
func (d dice) anyNumber() int {
	sizes := []int{5, one, limit, most + 3, 4 * most, high}
	return int(d.source.Uint64()) % sizes[d.source.Intn(len(sizes))]
}

func (d dice) anyPoint() api.Vec {
	return vec(d.anyNumber(), d.anyNumber())
}

// ring draws points near a circle, so that most of them are corners of their hull.
func (d dice) ring(count, scale int) []api.Vec {
	var list []api.Vec
	for len(list) < count {
		v := d.point(scale)
		if square := v.X*v.X + v.Y*v.Y; square <= scale*scale && square*10 >= scale*scale*9 {
			list = append(list, v)
		}
	}
	return list
}

// convex draws a convex polygon, or fails to and returns less than three points.
func (d dice) convex(scale int) []api.Vec {
	corners := wantConvexHull(d.ring(3+d.source.Intn(14), scale))
	for len(corners) > 8 {
		i := d.source.Intn(len(corners))
		corners = slices.Delete(corners, i, i+1)
	}
	return rotated(corners, d.source.Intn(len(corners)))
}

// spoiled are lists that differ little from the given one, most of which are no convex polygons.
func (d dice) spoiled(vertices []api.Vec) [][]api.Vec {
	i, j := d.source.Intn(len(vertices)), d.source.Intn(len(vertices))
	shifted, exchanged, far := slices.Clone(vertices), slices.Clone(vertices), slices.Clone(vertices)
	shifted[i] = plus(shifted[i], d.point(3))
	exchanged[i], exchanged[j] = exchanged[j], exchanged[i]
	far[i] = d.anyPoint()
	return [][]api.Vec{
		reversed(vertices), shifted, exchanged, far,
		slices.Insert(slices.Clone(vertices), i, vertices[j]),
		slices.Insert(slices.Clone(vertices), i, middle(vertices[i], vertices[j])),
	}
}

// lists are convex polygons and lists that are none, of every size.
func lists() [][]api.Vec {
	var list [][]api.Vec
	dice := newDice(1)
	for range 4000 {
		vertices := dice.convex(dice.scale())
		list = append(list, vertices)
		list = append(list, dice.spoiled(vertices)...)
		list = append(list, dice.points(dice.source.Intn(10), dice.scale()))
	}
	return list
}

// clouds are points for hulls: anywhere, near a circle, on one line, and with some out of range.
func clouds() [][]api.Vec {
	var list [][]api.Vec
	dice := newDice(2)
	for range 800 {
		scale, count := dice.scale(), dice.source.Intn(66)
		list = append(list, dice.points(count, scale), dice.ring(count, scale), dice.line(count, scale))
		list = append(list, dice.points(dice.source.Intn(7), scale), append(dice.points(count, scale), dice.anyPoint()))
	}
	return list
}

// line draws points on one line, and now and then one beside it.
func (d dice) line(count, scale int) []api.Vec {
	var list []api.Vec
	start, step := d.point(scale/2), d.point(scale/20+1)
	for range count {
		times := d.number(9)
		list = append(list, vec(start.X+step.X*times, start.Y+step.Y*times))
	}
	if count > 0 && d.source.Intn(2) == 0 {
		i := d.source.Intn(count)
		list[i] = plus(list[i], d.point(1))
	}
	return list
}

// aims are lists with points at, on, near and far from them.
func aims() []aim {
	var list []aim
	dice := newDice(3)
	for _, vertices := range lists() {
		list = append(list, aim{vertices, dice.point(dice.scale())}, aim{vertices, dice.anyPoint()})
		if len(vertices) == 0 {
			continue
		}
		a, b := vertices[dice.source.Intn(len(vertices))], vertices[dice.source.Intn(len(vertices))]
		on := middle(a, b)
		list = append(list, aim{vertices, a}, aim{vertices, on}, aim{vertices, plus(a, dice.point(2))}, aim{vertices, plus(on, dice.point(2))})
	}
	return list
}
