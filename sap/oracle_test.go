package sap_test

import (
	"math/rand"
	"slices"

	"carom/api"
	"carom/sap"
)

// The functions of this file work the promised answers out by plain searches over the unsorted lists, without packages aabb and sap.

func isValid(b api.AABB) bool {
	for _, x := range []int{b.Min.X, b.Min.Y, b.Max.X, b.Max.Y} {
		if x < -most || x > most {
			return false
		}
	}
	return b.Min.X <= b.Max.X && b.Min.Y <= b.Max.Y
}

// counting are the entries that count, in the order in which they come.
func counting(entries []sap.Entry) []sap.Entry {
	var list []sap.Entry
	seen := map[int]bool{}
	for _, e := range entries {
		if !isValid(e.Bounds) || seen[e.ID] {
			continue
		}
		seen[e.ID] = true
		list = append(list, e)
	}
	return list
}

// comesFirst is the order of Sort.
func comesFirst(a, b sap.Entry) bool {
	if a.Bounds.Min.X == b.Bounds.Min.X {
		return a.ID < b.ID
	}
	return a.Bounds.Min.X < b.Bounds.Min.X
}

// sortOf lays each entry that counts at the place that the number of those before it tells.
func sortOf(entries []sap.Entry) []sap.Entry {
	list := counting(entries)
	sorted := make([]sap.Entry, len(list))
	for _, e := range list {
		place := 0
		for _, other := range list {
			if comesFirst(other, e) {
				place++
			}
		}
		sorted[place] = e
	}
	return sorted
}

// haveCommon tells whether some number lies in both intervals.
func haveCommon(low, high, otherLow, otherHigh int) bool {
	return max(low, otherLow) <= min(high, otherHigh)
}

func doOverlap(a, b api.AABB) bool {
	return haveCommon(a.Min.X, a.Max.X, b.Min.X, b.Max.X) && haveCommon(a.Min.Y, a.Max.Y, b.Min.Y, b.Max.Y)
}

// pairsOf compares each entry that counts with each other one.
func pairsOf(entries []sap.Entry) [][2]int {
	list := counting(entries)
	slices.SortFunc(list, func(a, b sap.Entry) int {
		if a.ID < b.ID {
			return -1
		}
		return 1
	})
	var pairs [][2]int
	for i, e := range list {
		for _, other := range list[i+1:] {
			if doOverlap(e.Bounds, other.Bounds) {
				pairs = append(pairs, [2]int{e.ID, other.ID})
			}
		}
	}
	return pairs
}

// depth is the number of entries whose X intervals contain x.
func depth(list []sap.Entry, x int) int {
	count := 0
	for _, e := range list {
		if e.Bounds.Min.X <= x && x <= e.Bounds.Max.X {
			count++
		}
	}
	return count
}

// maxOverlapOf tries the coordinates at and beside all ends of intervals: between them, the number does not change.
func maxOverlapOf(entries []sap.Entry) overlap {
	list := counting(entries)
	var best overlap
	for _, e := range list {
		for _, end := range []int{e.Bounds.Min.X, e.Bounds.Max.X} {
			for x := end - 1; x <= end+1; x++ {
				count := depth(list, x)
				if count > best.count || count == best.count && x < best.at {
					best = overlap{count, x}
				}
			}
		}
	}
	return best
}

func pairBefore(p, q [2]int) bool {
	if p[0] == q[0] {
		return p[1] < q[1]
	}
	return p[0] < q[0]
}

// ascending are the pairs that the condition holds for: first the least of them, then always the least of those that are greater than the last one.
func ascending(pairs [][2]int, condition func([2]int) bool) [][2]int {
	var list [][2]int
	for {
		var next *[2]int
		for i, p := range pairs {
			if condition(p) && (len(list) == 0 || pairBefore(list[len(list)-1], p)) && (next == nil || pairBefore(p, *next)) {
				next = &pairs[i]
			}
		}
		if next == nil {
			return list
		}
		list = append(list, *next)
	}
}

func mergeOf(a, b [][2]int) [][2]int {
	return ascending(append(slices.Clone(a), b...), func([2]int) bool { return true })
}

func subtractOf(a, b [][2]int) [][2]int {
	return ascending(a, func(p [2]int) bool { return !slices.Contains(b, p) })
}

// dice draws numbers, the same ones for each seed.
type dice struct{ source *rand.Rand }

func newDice(seed int64) dice {
	return dice{rand.New(rand.NewSource(seed))}
}

// number draws a number from -limit to limit.
func (d dice) number(limit int) int {
	return d.source.Intn(2*limit+1) - limit
}

// field is a part of the plane with boxes of like sizes.
type field struct{ limit, length int }

// fields have boxes that often touch each other, that are seldom in each other's way, that lie on and within each other, and that reach to the ends of the saturated range.
func fields() []field {
	return []field{{20, 3}, {100 * one, one}, {4 * one, 4 * one}, {most, most / 8}, {most, 2 * most}}
}

// box draws a valid box of the field.
func (d dice) box(f field) api.AABB {
	x, y := d.number(f.limit), d.number(f.limit)
	return box(x, y, min(f.limit, x+d.source.Intn(f.length+1)), min(f.limit, y+d.source.Intn(f.length+1)))
}

// anyBox draws a box that is invalid now and then.
func (d dice) anyBox(f field) api.AABB {
	b := d.box(f)
	switch d.source.Intn(24) {
	case 0:
		b.Min.X = b.Max.X + 1
	case 1:
		b.Min.Y = b.Max.Y + 1 + d.source.Intn(one)
	case 2:
		b.Max.X = most + 1
	case 3:
		b.Min.Y = -most - 1
	}
	return b
}

// entries draws a list with IDs out of some, so that they come several times if there are few.
func (d dice) entries(count, ids int, f field) []sap.Entry {
	list := make([]sap.Entry, count)
	for i := range list {
		list[i] = sap.Entry{ID: d.source.Intn(ids) - ids/2, Bounds: d.anyBox(f)}
	}
	return list
}

// different draws a list with valid boxes and different IDs.
func (d dice) different(count int, f field) []sap.Entry {
	list := make([]sap.Entry, count)
	for i, id := range d.source.Perm(count) {
		list[i] = sap.Entry{ID: 3*id - count, Bounds: d.box(f)}
	}
	return list
}

// pairs draws a list of pairs out of numbers from -limit to limit.
func (d dice) pairs(count, limit int) [][2]int {
	list := make([][2]int, count)
	for i := range list {
		list[i] = [2]int{d.number(limit), d.number(limit)}
	}
	return list
}

// order draws an order of the entries.
func (d dice) order(entries []sap.Entry) []sap.Entry {
	entries = slices.Clone(entries)
	d.source.Shuffle(len(entries), func(i, j int) { entries[i], entries[j] = entries[j], entries[i] })
	return entries
}
