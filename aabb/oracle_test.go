package aabb_test

import (
	"math/rand"

	"carom/api"
)

// The functions of this file work the promised values out along each axis by itself. Segments are cut along the axes by exact fractions, so that they share no orientations with the package.

func saturated(x int) int {
	return min(max(x, -api.MaxValue), api.MaxValue)
}

func saturatedVec(v api.Vec) api.Vec {
	return vec(saturated(v.X), saturated(v.Y))
}

// interval is what a box covers on one axis.
type interval struct{ low, high int }

// sides returns the intervals of b on both axes.
func sides(b api.AABB) [2]interval {
	return [2]interval{{b.Min.X, b.Max.X}, {b.Min.Y, b.Max.Y}}
}

func fromSides(x, y interval) api.AABB {
	return box(x.low, y.low, x.high, y.high)
}

func valid(b api.AABB) bool {
	for _, side := range sides(b) {
		if side.low > side.high || saturated(side.low) != side.low || saturated(side.high) != side.high {
			return false
		}
	}
	return true
}

// has tells whether the valid box b has the point v.
func has(b api.AABB, v api.Vec) bool {
	x, y := sides(b)[0], sides(b)[1]
	return x.low <= v.X && v.X <= x.high && y.low <= v.Y && v.Y <= y.high
}

func wantFromPoints(points []api.Vec) found {
	if len(points) == 0 {
		return found{}
	}
	x, y := interval{most, -most}, interval{most, -most}
	for _, v := range points {
		x = interval{min(x.low, saturated(v.X)), max(x.high, saturated(v.X))}
		y = interval{min(y.low, saturated(v.Y)), max(y.high, saturated(v.Y))}
	}
	return found{fromSides(x, y), true}
}

func wantUnion(p pair) api.AABB {
	var corners []api.Vec
	for _, b := range []api.AABB{p.a, p.b} {
		if valid(b) {
			corners = append(corners, b.Min, b.Max)
		}
	}
	return wantFromPoints(corners).b
}

func wantOverlaps(p pair) bool {
	a, b := sides(p.a), sides(p.b)
	for axis := range a {
		if max(a[axis].low, b[axis].low) > min(a[axis].high, b[axis].high) {
			return false
		}
	}
	return valid(p.a) && valid(p.b)
}

func wantContains(p pair) bool {
	return valid(p.a) && valid(p.b) && has(p.a, p.b.Min) && has(p.a, p.b.Max)
}

func wantContainsPoint(p placed) bool {
	return valid(p.b) && has(p.b, saturatedVec(p.v))
}

func wantExpand(e expanded) api.AABB {
	margin, s := saturated(e.margin), sides(e.b)
	for axis, side := range s {
		s[axis] = interval{saturated(side.low - margin), saturated(side.high + margin)}
	}
	if result := fromSides(s[0], s[1]); valid(e.b) && valid(result) {
		return result
	}
	return api.AABB{}
}

func wantHalfPerimeter(b api.AABB) int {
	if !valid(b) {
		return 0
	}
	x, y := sides(b)[0], sides(b)[1]
	return saturated(saturated(x.high-x.low) + saturated(y.high-y.low))
}

// fraction is n/d for a positive d. Both are below 2^31, so that products of two fit into an int.
type fraction struct{ n, d int }

func (f fraction) less(g fraction) bool {
	return f.n*g.d < g.n*f.d
}

// cut returns the part of the way from start to end that lies in side.
func cut(side interval, start, end int) (enter, leave fraction) {
	if start == end {
		if side.low <= start && start <= side.high {
			return fraction{0, 1}, fraction{1, 1}
		}
		return fraction{1, 1}, fraction{0, 1}
	}
	if start > end {
		return cut(interval{-side.high, -side.low}, -start, -end)
	}
	return fraction{side.low - start, end - start}, fraction{side.high - start, end - start}
}

func wantIntersectsSegment(s crossed) bool {
	if !valid(s.b) {
		return false
	}
	from, to := saturatedVec(s.from), saturatedVec(s.to)
	latest, earliest := fraction{0, 1}, fraction{1, 1}
	for axis, way := range [2]interval{{from.X, to.X}, {from.Y, to.Y}} {
		enter, leave := cut(sides(s.b)[axis], way.low, way.high)
		if latest.less(enter) {
			latest = enter
		}
		if leave.less(earliest) {
			earliest = leave
		}
	}
	return !earliest.less(latest)
}

// dice draws numbers, the same ones for each seed.
type dice struct{ source *rand.Rand }

func newDice(seed int64) dice {
	return dice{rand.New(rand.NewSource(seed))}
}

// scale draws the size of the numbers of one sample: they must be alike for boxes to meet, and reach beyond the saturated range as well.
func (d dice) scale() int {
	sizes := []int{3, 8, 100, 4 * one, most + 2, 4 * most, high}
	return sizes[d.source.Intn(len(sizes))]
}

// number draws a number below scale in magnitude.
func (d dice) number(scale int) int {
	return int(d.source.Uint64()) % scale
}

func (d dice) point(scale int) api.Vec {
	return vec(d.number(scale), d.number(scale))
}

// box draws a box that is valid most of the time.
func (d dice) box(scale int) api.AABB {
	a, b := d.point(scale), d.point(scale)
	if d.source.Intn(4) > 0 {
		a, b = saturatedVec(a), saturatedVec(b)
	}
	if d.source.Intn(8) > 0 {
		return box(min(a.X, b.X), min(a.Y, b.Y), max(a.X, b.X), max(a.Y, b.Y))
	}
	return api.AABB{Min: a, Max: b}
}

// ranges returns the intervals between the numbers, which ascend.
func ranges(numbers ...int) []interval {
	var list []interval
	for i, low := range numbers {
		for _, high := range numbers[i:] {
			list = append(list, interval{low, high})
		}
	}
	return list
}

func grid(sides []interval) []api.AABB {
	var list []api.AABB
	for _, x := range sides {
		for _, y := range sides {
			list = append(list, fromSides(x, y))
		}
	}
	return list
}

// smallBoxes are all boxes with coordinates from 0 to 3: they touch, overlap, miss each other and lie in each other in every way.
func smallBoxes() []api.AABB {
	return grid(ranges(0, 1, 2, 3))
}

// smallPoints are all points with coordinates from low to high.
func smallPoints(low, high int) []api.Vec {
	var list []api.Vec
	for x := low; x <= high; x++ {
		for y := low; y <= high; y++ {
			list = append(list, vec(x, y))
		}
	}
	return list
}

// endBoxes have coordinates at the ends of the saturated range and beyond them, and are valid or not.
func endBoxes() []api.AABB {
	return grid(append(ranges(-most-1, -most, 0, most, most+1), interval{1, 0}, interval{0, -most}, interval{most, 0}, interval{high, low}))
}

func boxes() []api.AABB {
	list := append(smallBoxes(), endBoxes()...)
	dice := newDice(1)
	for range 5000 {
		list = append(list, dice.box(dice.scale()))
	}
	return list
}

func pairs() []pair {
	var list []pair
	for _, group := range [][]api.AABB{smallBoxes(), endBoxes()} {
		for _, a := range group {
			for _, b := range group {
				list = append(list, pair{a, b})
			}
		}
	}
	dice := newDice(2)
	for range 50000 {
		scale := dice.scale()
		a, b := dice.box(scale), dice.box(scale)
		beside := box(a.Max.X, b.Min.Y, max(a.Max.X, b.Max.X), b.Max.Y)
		list = append(list, pair{a, b}, pair{a, beside}, pair{a, a}, pair{a, api.AABB{Min: a.Min, Max: saturatedVec(b.Max)}})
	}
	return list
}

func pointLists() [][]api.Vec {
	list := [][]api.Vec{nil}
	dice := newDice(3)
	for range 20000 {
		scale, count := dice.scale(), dice.source.Intn(12)
		var points []api.Vec
		for range count {
			points = append(points, dice.point(scale))
		}
		list = append(list, points)
	}
	return list
}

func placedPoints() []placed {
	var list []placed
	for _, b := range smallBoxes() {
		for _, v := range smallPoints(-1, 4) {
			list = append(list, placed{b, v})
		}
	}
	for _, b := range endBoxes() {
		list = append(list, placed{b, b.Min}, placed{b, b.Max}, placed{b, vec(b.Min.X, b.Max.Y)}, placed{b, vec(0, 0)}, placed{b, vec(high, low)})
	}
	dice := newDice(4)
	for range 50000 {
		scale := dice.scale()
		list = append(list, placed{dice.box(scale), dice.point(scale)})
	}
	return list
}

func expandedBoxes() []expanded {
	margins := []int{0, 1, -1, 2, -2, half, -one, most - 1, most, most + 1, 1 - most, -most, -most - 1, far, -far, low, low + 1, high}
	dice := newDice(5)
	var list []expanded
	for _, b := range boxes() {
		for _, margin := range margins {
			list = append(list, expanded{b, margin})
		}
		// About half the width and the height decide whether anything is left.
		list = append(list, expanded{b, (b.Min.X - b.Max.X) / 2}, expanded{b, (b.Min.Y-b.Max.Y)/2 - 1}, expanded{b, dice.number(dice.scale())})
	}
	return list
}

// smallSegments are all segments between smallPoints, against all smallBoxes.
func smallSegments() []crossed {
	points := smallPoints(-1, 4)
	var list []crossed
	for _, b := range smallBoxes() {
		for _, from := range points {
			for _, to := range points {
				list = append(list, crossed{b, from, to})
			}
		}
	}
	return list
}

func segments() []crossed {
	list := smallSegments()
	dice := newDice(6)
	for _, b := range boxes() {
		for _, corner := range []api.Vec{b.Min, b.Max, {X: b.Min.X, Y: b.Max.Y}, {X: b.Max.X, Y: b.Min.Y}} {
			way, shift := dice.point(dice.scale()), dice.point(2)
			from, to := vec(corner.X-way.X, corner.Y-way.Y), vec(corner.X+way.X, corner.Y+way.Y)
			// The first goes through the corner unless it is saturated, the second passes close by it, the third ends in it.
			list = append(list, crossed{b, from, to}, crossed{b, from, vec(to.X+shift.X, to.Y+shift.Y)}, crossed{b, to, corner})
		}
	}
	for range 50000 {
		scale := dice.scale()
		list = append(list, crossed{dice.box(scale), dice.point(scale), dice.point(scale)})
	}
	return list
}
