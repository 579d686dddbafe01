package sat_test

import (
	"math/big"
	"math/rand"
	"slices"

	"carom/api"
	"carom/polygon"
)

// The functions of this file work the promised values out by integers of any size and without the lower layers.

func bigInt(x int) *big.Int {
	return big.NewInt(int64(x))
}

func saturated(x int) int {
	return min(max(x, -api.MaxValue), api.MaxValue)
}

func saturatedBig(x *big.Int) int {
	if x.CmpAbs(bigInt(api.MaxValue)) > 0 {
		return x.Sign() * api.MaxValue
	}
	return int(x.Int64())
}

// roundBig divides n by the positive d and rounds halves away from zero.
func roundBig(n, d *big.Int) *big.Int {
	quotient := new(big.Int).Lsh(new(big.Int).Abs(n), 1)
	quotient.Add(quotient, d)
	quotient.Div(quotient, new(big.Int).Lsh(d, 1))
	if n.Sign() < 0 {
		quotient.Neg(quotient)
	}
	return quotient
}

// sumOfProducts is a*b + c*d.
func sumOfProducts(a, b, c, d int) *big.Int {
	first := new(big.Int).Mul(bigInt(a), bigInt(b))
	return first.Add(first, new(big.Int).Mul(bigInt(c), bigInt(d)))
}

func wantDot(a, b api.Vec) int {
	sum := sumOfProducts(saturated(a.X), saturated(b.X), saturated(a.Y), saturated(b.Y))
	return saturatedBig(roundBig(sum, bigInt(one)))
}

// wantWay is the way from one point to another.
func wantWay(from, to api.Vec) api.Vec {
	return vec(saturated(saturated(to.X)-saturated(from.X)), saturated(saturated(to.Y)-saturated(from.Y)))
}

func wantDirection(s side) api.Vec {
	if len(s.core) < 2 || s.edge < 0 || s.edge > len(s.core)-1 {
		return api.Vec{}
	}
	end := s.core[0]
	if s.edge < len(s.core)-1 {
		end = s.core[s.edge+1]
	}
	e := wantWay(s.core[s.edge], end)
	square := sumOfProducts(e.X, e.X, e.Y, e.Y)
	if square.Sign() == 0 {
		return api.Vec{}
	}
	length := bigInt(saturatedBig(square.Sqrt(square)))
	component := func(x int) int {
		return saturatedBig(roundBig(new(big.Int).Mul(bigInt(x), bigInt(one)), length))
	}
	return vec(component(e.X), component(e.Y))
}

// wantNormal is the direction turned by a right angle to the right: the rounding of each component is the same for both signs.
func wantNormal(s side) api.Vec {
	d := wantDirection(s)
	return vec(d.Y, -d.X)
}

// wantSeparations are the separations of b from all edges of a.
func wantSeparations(p pair) []int {
	var list []int
	for i, from := range p.a {
		var dots []int
		for _, v := range p.b {
			dots = append(dots, wantDot(wantNormal(side{p.a, i}), wantWay(from, v)))
		}
		list = append(list, slices.Min(dots))
	}
	return list
}

func wantMaxSeparation(p pair) gap {
	if len(p.a) < 2 || len(p.b) < 1 {
		return gap{-1, 0}
	}
	list := wantSeparations(p)
	largest := slices.Max(list)
	return gap{slices.Index(list, largest), largest}
}

func wantIncidentEdge(a aim) int {
	if len(a.core) < 2 {
		return -1
	}
	var dots []int
	for i := range a.core {
		dots = append(dots, wantDot(wantNormal(side{a.core, i}), a.n))
	}
	return slices.Index(dots, slices.Min(dots))
}

// cross is twice the area of the triangle, which is positive if c lies to the left of the way from a to b.
func cross(a, b, c api.Vec) int {
	return (b.X-a.X)*(c.Y-a.Y) - (b.Y-a.Y)*(c.X-a.X)
}

// keepsOff tells whether an edge of the convex polygon a has all of b to its right, none of it on its line.
func keepsOff(a, b core) bool {
	for i, from := range a {
		to := a[(i+1)%len(a)]
		if !slices.ContainsFunc(b, func(v api.Vec) bool { return cross(from, to, v) >= 0 }) {
			return true
		}
	}
	return false
}

// apart tells whether two convex polygons have no point in common, whole numbers or not: an edge of one of them then keeps the other one off. It is exact.
func apart(a, b core) bool {
	return keepsOff(a, b) || keepsOff(b, a)
}

// dice draws numbers, the same ones for each seed.
type dice struct{ source *rand.Rand }

func newDice(seed int64) dice {
	return dice{rand.New(rand.NewSource(seed))}
}

// scale draws the size of the numbers of one sample: small ones give short edges and equal separations, great ones reach beyond the saturated range.
func (d dice) scale() int {
	sizes := []int{2, 3, 8, 100, one / 4, 4 * one, limit, 1 << 23, api.WorldLimit, most + 2, 4 * most, high}
	return sizes[d.source.Intn(len(sizes))]
}

// number draws a number below scale in magnitude.
func (d dice) number(scale int) int {
	return int(d.source.Uint64()) % scale
}

func (d dice) point(scale int) api.Vec {
	return vec(d.number(scale), d.number(scale))
}

func (d dice) points(count, scale int) core {
	var list core
	for range count {
		list = append(list, d.point(scale))
	}
	return list
}

// shape draws a core: convex or of any form, some of whose vertices may coincide.
func (d dice) shape(scale int) core {
	if scale <= limit && d.source.Intn(2) == 0 {
		return d.convex(scale)
	}
	list := d.points(d.source.Intn(9), scale)
	if len(list) > 0 && d.source.Intn(3) == 0 {
		i := d.source.Intn(len(list))
		list = slices.Insert(list, i, list[i])
	}
	return list
}

// convex draws corners of a convex hull, up to 8 of them and seldom less than 3, starting at any of them.
func (d dice) convex(scale int) core {
	corners := polygon.ConvexHull(d.points(1+d.source.Intn(14), scale))
	for len(corners) > 8 {
		i := d.source.Intn(len(corners))
		corners = slices.Delete(corners, i, i+1)
	}
	return rotated(corners, d.source.Intn(len(corners)))
}

// polygon draws a convex polygon.
func (d dice) polygon(scale int) core {
	for {
		if corners := d.convex(scale); polygon.IsConvex(corners) {
			return corners
		}
	}
}

// cores are cores of every size and with numbers of every size.
func cores() []core {
	var list []core
	dice := newDice(1)
	for range 4000 {
		list = append(list, dice.shape(dice.scale()))
	}
	return list
}

// sides are all edges of the cores and numbers that are none.
func sides() []side {
	var list []side
	dice := newDice(2)
	for _, c := range cores() {
		for i := -2; i < len(c)+2; i++ {
			list = append(list, side{c, i})
		}
		list = append(list, side{c, dice.number(high)})
	}
	return list
}

// pairs are two cores of one size, of different sizes, and moved so that they touch or nearly do.
func pairs() []pair {
	var list []pair
	dice := newDice(3)
	for range 4000 {
		scale := dice.scale()
		a, b := dice.shape(scale), dice.shape(scale)
		list = append(list, pair{a, b}, pair{a, dice.shape(dice.scale())}, pair{a, dice.points(1, scale)}, pair{a, a})
		if len(a) > 0 && len(b) > 0 {
			i, j := dice.source.Intn(len(a)), dice.source.Intn(len(b))
			list = append(list, pair{a, moved(b, plus(wantWay(b[j], a[i]), dice.point(3)))})
		}
	}
	return list
}

// aims are cores with vectors of any size, along and against their normals, and between these.
func aims() []aim {
	var list []aim
	dice := newDice(4)
	for _, c := range cores() {
		list = append(list, aim{c, dice.point(dice.scale())}, aim{c, dice.point(2)})
		if len(c) == 0 {
			continue
		}
		m, n := wantNormal(side{c, dice.source.Intn(len(c))}), wantNormal(side{c, dice.source.Intn(len(c))})
		list = append(list, aim{c, n}, aim{c, vec(-n.X, -n.Y)}, aim{c, plus(m, n)}, aim{c, vec(-m.X-n.X, -m.Y-n.Y)})
	}
	return list
}

// near are pairs of convex polygons that touch with corners, or a corner with an edge, or nearly do, so that their separation is small.
func near() []pair {
	var list []pair
	dice := newDice(5)
	for len(list) < 60000 {
		scales := []int{20, 300, 3000, one, 4 * one, limit}
		a, b := dice.polygon(scales[dice.source.Intn(len(scales))]), dice.polygon(scales[dice.source.Intn(len(scales))])
		i, j := dice.source.Intn(len(a)), dice.source.Intn(len(b))
		corner, edge := moved(b, wantWay(b[j], a[i])), moved(b, wantWay(b[j], middle(a[i], a[(i+1)%len(a)])))
		n, away := wantNormal(side{a, i}), dice.number(400)
		for _, c := range []core{corner, edge} {
			list = append(list, pair{a, c}, pair{a, moved(c, vec(n.X*away/one, n.Y*away/one))}, pair{a, moved(c, dice.point(200))})
		}
	}
	return slices.DeleteFunc(list, func(p pair) bool { return !polygon.IsConvex(p.a) || !polygon.IsConvex(p.b) })
}
