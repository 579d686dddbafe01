package clip_test

import (
	"math/big"
	"math/rand"
	"slices"

	"carom/api"
	"carom/clip"
	"carom/polygon"
)

// The functions of this file work the promised values out by integers of any size and without the lower layers.

func bigInt(x int) *big.Int {
	return big.NewInt(int64(x))
}

func saturated(x int) int {
	return min(max(x, -api.MaxValue), api.MaxValue)
}

func saturatedBig(x *big.Int) int {
	if x.CmpAbs(bigInt(api.MaxValue)) > 0 {
		return x.Sign() * api.MaxValue
	}
	return int(x.Int64())
}

// roundBig divides n by the positive d and rounds halves away from zero.
func roundBig(n, d *big.Int) *big.Int {
	quotient := new(big.Int).Lsh(new(big.Int).Abs(n), 1)
	quotient.Add(quotient, d)
	quotient.Div(quotient, new(big.Int).Lsh(d, 1))
	if n.Sign() < 0 {
		quotient.Neg(quotient)
	}
	return quotient
}

// share is a*b/c, rounded and saturated.
func share(a, b int, c *big.Int) int {
	return saturatedBig(roundBig(new(big.Int).Mul(bigInt(a), bigInt(b)), c))
}

// sumOfProducts is a*b + c*d.
func sumOfProducts(a, b, c, d int) *big.Int {
	first := new(big.Int).Mul(bigInt(a), bigInt(b))
	return first.Add(first, new(big.Int).Mul(bigInt(c), bigInt(d)))
}

// wantWay is the way from one point to another.
func wantWay(from, to api.Vec) api.Vec {
	return vec(saturated(saturated(to.X)-saturated(from.X)), saturated(saturated(to.Y)-saturated(from.Y)))
}

// wantBeyond is how far a point lies beyond the border of a half-plane.
func wantBeyond(p, origin, normal api.Vec) int {
	way := wantWay(origin, p)
	sum := sumOfProducts(saturated(normal.X), way.X, saturated(normal.Y), way.Y)
	return saturatedBig(roundBig(sum, bigInt(one)))
}

// wantPart is the point at the fraction n/d of the way from one point to another.
func wantPart(from, to api.Vec, n int, d *big.Int) api.Vec {
	t := share(n, one, d)
	component := func(from, way int) int {
		return saturated(saturated(from) + share(way, t, bigInt(one)))
	}
	way := wantWay(from, to)
	return vec(component(from.X, way.X), component(from.Y, way.Y))
}

func wantHalfPlane(c cutting) line {
	if len(c.segment) != 2 {
		return nil
	}
	first, second := c.segment[0], c.segment[1]
	d, e := wantBeyond(first.Point, c.origin, c.normal), wantBeyond(second.Point, c.origin, c.normal)
	whole := new(big.Int).Abs(new(big.Int).Sub(bigInt(d), bigInt(e)))
	switch {
	case d > 0 && e > 0:
		return nil
	case d > 0:
		first.Point = wantPart(first.Point, second.Point, d, whole)
	case e > 0:
		second.Point = wantPart(second.Point, first.Point, e, whole)
	}
	return line{first, second}
}

// wantEdge is an edge of a core, and whether there is one.
func wantEdge(c core, i int) (start, end api.Vec, ok bool) {
	if len(c) < 2 || i < 0 || i > len(c)-1 {
		return api.Vec{}, api.Vec{}, false
	}
	if i == len(c)-1 {
		return c[i], c[0], true
	}
	return c[i], c[i+1], true
}

func wantDirection(start, end api.Vec) api.Vec {
	way := wantWay(start, end)
	length := sumOfProducts(way.X, way.X, way.Y, way.Y)
	if length.Sign() == 0 {
		return api.Vec{}
	}
	length = bigInt(saturatedBig(length.Sqrt(length)))
	return vec(share(way.X, one, length), share(way.Y, one, length))
}

func wantToEdge(f facing) line {
	start, end, ok := wantEdge(f.a, f.i)
	from, to, found := wantEdge(f.b, f.k)
	if !ok || !found {
		return nil
	}
	forward := wantDirection(start, end)
	backward := vec(-forward.X, -forward.Y)
	whole := line{{Point: from, ID: 0}, {Point: to, ID: 1}}
	return wantHalfPlane(cutting{wantHalfPlane(cutting{whole, end, forward}), start, backward})
}

// dice draws numbers, the same ones for each seed.
type dice struct{ source *rand.Rand }

func newDice(seed int64) dice {
	return dice{rand.New(rand.NewSource(seed))}
}

// scale draws the size of the numbers of one sample: small ones make points coincide and lie on borders, great ones reach beyond the saturated range.
func (d dice) scale() int {
	sizes := []int{2, 3, 8, 100, one / 4, 4 * one, limit, 1 << 23, api.WorldLimit, most + 2, 4 * most, high}
	return sizes[d.source.Intn(len(sizes))]
}

// number draws a number below scale in magnitude.
func (d dice) number(scale int) int {
	return int(d.source.Uint64()) % scale
}

func (d dice) point(scale int) api.Vec {
	return vec(d.number(scale), d.number(scale))
}

func (d dice) points(count, scale int) core {
	var list core
	for range count {
		list = append(list, d.point(scale))
	}
	return list
}

// shape draws a core: convex or of any form, some of whose vertices may coincide.
func (d dice) shape(scale int) core {
	if scale <= limit && d.source.Intn(2) == 0 {
		return d.convex(scale)
	}
	list := d.points(d.source.Intn(9), scale)
	if len(list) > 0 && d.source.Intn(3) == 0 {
		i := d.source.Intn(len(list))
		list = slices.Insert(list, i, list[i])
	}
	return list
}

// convex draws corners of a convex hull, up to 8 of them and seldom less than 3.
func (d dice) convex(scale int) core {
	corners := polygon.ConvexHull(d.points(1+d.source.Intn(14), scale))
	for len(corners) > 8 {
		i := d.source.Intn(len(corners))
		corners = slices.Delete(corners, i, i+1)
	}
	return corners
}

// polygon draws a convex polygon.
func (d dice) polygon(scale int) core {
	for {
		if corners := d.convex(scale); polygon.IsConvex(corners) {
			return corners
		}
	}
}

// vertex draws a point with one of a few numbers or any number.
func (d dice) vertex(scale int) clip.Vertex {
	ids := []int{0, 1, 7, -3, low, high, d.number(high)}
	return clip.Vertex{Point: d.point(scale), ID: ids[d.source.Intn(len(ids))]}
}

// normal draws the zero vector, one along an axis, one of length One or one of any length.
func (d dice) normal(scale int) api.Vec {
	switch d.source.Intn(8) {
	case 0:
		return api.Vec{}
	case 1, 2:
		axes := core{vec(one, 0), vec(0, one), vec(-one, 0), vec(0, -one), vec(one, one), vec(-2*one, half)}
		return axes[d.source.Intn(len(axes))]
	case 3, 4, 5:
		return wantDirection(api.Vec{}, d.point(far))
	}
	return d.point(scale)
}

// cuttings are segments and half-planes of one size and of different sizes, borders through a vertex, and lists that are no segments.
func cuttings() []cutting {
	var list []cutting
	dice := newDice(1)
	for range 60000 {
		scale := dice.scale()
		c := cutting{line{dice.vertex(scale), dice.vertex(scale)}, dice.point(scale), dice.normal(dice.scale())}
		switch dice.source.Intn(8) {
		case 0:
			c.origin = c.segment[dice.source.Intn(2)].Point
		case 1:
			c.segment[0].Point.X = c.origin.X
		case 2:
			c.segment[1].Point.Y = c.origin.Y
		case 3:
			c.segment[1].Point = c.segment[0].Point
		case 4:
			c.segment[0] = dice.vertex(dice.scale())
		case 5:
			c.segment = append(c.segment, dice.vertex(scale))[:dice.source.Intn(4)]
		}
		list = append(list, c)
	}
	return list
}

// facings are edges of cores of one size, of different sizes, and moved so that vertices of both coincide or nearly do, and numbers of edges that do not exist.
func facings() []facing {
	var list []facing
	dice := newDice(2)
	for range 30000 {
		scale := dice.scale()
		a, b := dice.shape(scale), dice.shape(scale)
		if dice.source.Intn(4) == 0 {
			b = dice.shape(dice.scale())
		}
		i, k := dice.source.Intn(len(a)+2)-1, dice.source.Intn(len(b)+2)-1
		list = append(list, facing{a, i, b, k})
		if start, _, ok := wantEdge(a, i); ok && len(b) > 0 {
			shift := plus(wantWay(b[dice.source.Intn(len(b))], start), dice.point(3))
			list = append(list, facing{a, i, moved(b, shift), k}, facing{a, i, a, max(k, 0) % len(a)})
		}
		list = append(list, facing{a, dice.number(high), b, k}, facing{a, i, b, dice.number(high)})
	}
	return list
}
