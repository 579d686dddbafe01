package bvh_test

import (
	"math/rand"
	"slices"

	"carom/api"
)

// The types of this file work the promised answers out by searching a plain list of boxes. Boxes and segments are cut along each axis by itself, so that nothing is shared with package aabb.

func saturated(x int) int {
	return min(max(x, -most), most)
}

func isValid(b api.AABB) bool {
	for _, x := range []int{b.Min.X, b.Min.Y, b.Max.X, b.Max.Y} {
		if saturated(x) != x {
			return false
		}
	}
	return b.Min.X <= b.Max.X && b.Min.Y <= b.Max.Y
}

func doOverlap(a, b api.AABB) bool {
	return isValid(a) && isValid(b) &&
		max(a.Min.X, b.Min.X) <= min(a.Max.X, b.Max.X) &&
		max(a.Min.Y, b.Min.Y) <= min(a.Max.Y, b.Max.Y)
}

// fraction is n/d for a positive d. Both are below 2^31, so that products of two fit into an int.
type fraction struct{ n, d int }

func (f fraction) less(g fraction) bool {
	return f.n*g.d < g.n*f.d
}

// cut is the part of the way from start to end that lies between low and high.
func cut(low, high, start, end int) (enter, leave fraction) {
	switch {
	case start > end:
		return cut(-high, -low, -start, -end)
	case start < end:
		return fraction{low - start, end - start}, fraction{high - start, end - start}
	case low <= start && start <= high:
		return fraction{0, 1}, fraction{1, 1}
	}
	return fraction{1, 1}, fraction{0, 1}
}

// doesCross tells whether the segment between the points has a point in common with the box.
func doesCross(b api.AABB, from, to api.Vec) bool {
	x, xEnd := cut(b.Min.X, b.Max.X, saturated(from.X), saturated(to.X))
	y, yEnd := cut(b.Min.Y, b.Max.Y, saturated(from.Y), saturated(to.Y))
	for _, enter := range []fraction{{0, 1}, x, y} {
		for _, leave := range []fraction{{1, 1}, xEnd, yEnd} {
			if leave.less(enter) {
				return false
			}
		}
	}
	return true
}

// stored is a box with its ID.
type stored struct {
	id     int
	bounds api.AABB
}

// list holds boxes in the order of their insertion.
type list struct{ boxes []stored }

func (l *list) place(id int) int {
	return slices.IndexFunc(l.boxes, func(s stored) bool { return s.id == id })
}

func (l *list) insert(id int, bounds api.AABB) api.Errno {
	if !isValid(bounds) {
		return api.ErrArgument
	}
	if l.place(id) >= 0 {
		return api.ErrDuplicate
	}
	if len(l.boxes) == 4096 {
		return api.ErrFull
	}
	l.boxes = append(l.boxes, stored{id, bounds})
	return api.OK
}

func (l *list) remove(id int) bool {
	at := l.place(id)
	if at < 0 {
		return false
	}
	l.boxes = slices.Delete(l.boxes, at, at+1)
	return true
}

func (l *list) update(id int, bounds api.AABB) api.Errno {
	if !isValid(bounds) {
		return api.ErrArgument
	}
	at := l.place(id)
	if at < 0 {
		return api.ErrNotFound
	}
	l.boxes[at].bounds = bounds
	return api.OK
}

func (l *list) bounds(id int) found {
	if at := l.place(id); at >= 0 {
		return found{l.boxes[at].bounds, true}
	}
	return found{}
}

// those are the ascending IDs of the boxes that the condition holds for.
func (l *list) those(condition func(api.AABB) bool) []int {
	var ids []int
	for _, s := range l.boxes {
		if condition(s.bounds) {
			ids = append(ids, s.id)
		}
	}
	slices.Sort(ids)
	return ids
}

func (l *list) query(bounds api.AABB) []int {
	return l.those(func(b api.AABB) bool { return doOverlap(b, bounds) })
}

func (l *list) rayQuery(from, to api.Vec) []int {
	return l.those(func(b api.AABB) bool { return doesCross(b, from, to) })
}

func (l *list) pairs() [][2]int {
	var pairs [][2]int
	for i, s := range l.boxes {
		for _, other := range l.boxes[:i] {
			if doOverlap(s.bounds, other.bounds) {
				pairs = append(pairs, [2]int{min(s.id, other.id), max(s.id, other.id)})
			}
		}
	}
	slices.SortFunc(pairs, func(p, q [2]int) int { return slices.Compare(p[:], q[:]) })
	return pairs
}

func (l *list) clone() *list {
	return &list{slices.Clone(l.boxes)}
}

// dice draws numbers, the same ones for each seed.
type dice struct{ source *rand.Rand }

func newDice(seed int64) dice {
	return dice{rand.New(rand.NewSource(seed))}
}

// number draws a number from -limit to limit.
func (d dice) number(limit int) int {
	return d.source.Intn(2*limit+1) - limit
}

func (d dice) point(limit int) api.Vec {
	return vec(d.number(limit), d.number(limit))
}

// box draws a valid box within the limit, no side of which is longer than the length.
func (d dice) box(limit, length int) api.AABB {
	at := d.point(limit)
	return box(at.X, at.Y, min(limit, at.X+d.source.Intn(length+1)), min(limit, at.Y+d.source.Intn(length+1)))
}

// field is a part of the plane with boxes of like sizes.
type field struct{ limit, length int }

// fields have boxes that often touch each other, that are seldom in each other's way, that lie on and within each other, and that reach to the ends of the saturated range.
func fields() []field {
	return []field{{20, 3}, {100 * one, one}, {4 * one, 4 * one}, {most, most / 8}}
}

// argument draws a box for a search or a change. It is invalid now and then.
func (d dice) argument(f field) api.AABB {
	b := d.box(f.limit, f.length)
	switch d.source.Intn(24) {
	case 0:
		b.Min.X = b.Max.X + 1
	case 1:
		b.Min.Y = b.Max.Y + 1 + d.source.Intn(one)
	case 2:
		b.Max.X = most + 1
	case 3:
		b.Min.Y = -most - 1
	}
	return b
}

// end draws an end of a segment. It is not saturated now and then.
func (d dice) end(f field) api.Vec {
	v := d.point(f.limit + f.length)
	switch d.source.Intn(24) {
	case 0:
		v.X = high
	case 1:
		v.Y = low
	}
	return v
}

// order draws a permutation of the items.
func (d dice) order(items []stored) []stored {
	items = slices.Clone(items)
	d.source.Shuffle(len(items), func(i, j int) { items[i], items[j] = items[j], items[i] })
	return items
}
