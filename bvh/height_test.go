package bvh_test

import (
	"slices"
	"testing"

	"carom/api"
	"carom/bvh"
)

// layout gives the boxes of a tree by their numbers.
type layout struct {
	name string
	box  func(i int) api.AABB
}

func layouts() []layout {
	d := newDice(60)
	return []layout{
		{"ascending along a line", func(i int) api.AABB { return unit(2 * i) }},
		{"descending along a line", func(i int) api.AABB { return unit(-2 * i) }},
		{"up a line", func(i int) api.AABB { return box(0, i, 0, i) }},
		{"from both ends of a line", func(i int) api.AABB { return unit((i%2*2 - 1) * (10000 - i)) }},
		{"outwards from the middle of a line", func(i int) api.AABB { return unit((i%2*2 - 1) * i) }},
		{"mixed along a line", func(i int) api.AABB { return unit(i * 1237 % 4096) }},
		{"touching along a line", func(i int) api.AABB { return unit(i) }},
		{"ever farther along a line", func(i int) api.AABB { return unit(i * i) }},
		{"along a diagonal", func(i int) api.AABB { return box(i, i, i+5, i+5) }},
		{"rows of a grid", func(i int) api.AABB { return box(i%64*3, i/64*3, i%64*3+2, i/64*3+2) }},
		{"mixed in the plane", func(i int) api.AABB { return d.box(100*one, one) }},
		{"mixed in the whole plane", func(i int) api.AABB { return d.box(most, most/16) }},
		{"equal", func(i int) api.AABB { return unit(0) }},
		{"growing", func(i int) api.AABB { return box(-i, -i, i, i) }},
		{"shrinking", func(i int) api.AABB { return box(i-5000, i-5000, 5000-i, 5000-i) }},
		{"growing to one side", func(i int) api.AABB { return box(0, 0, i*i, 1) }},
		{"the same four", func(i int) api.AABB { return unit(i % 4 * 100) }},
	}
}

// P20.4, P20.2: the height after each of many insertions, updates and removals.
func TestHeightStaysLow(t *testing.T) {
	for _, l := range layouts() {
		t.Run(l.name, func(t *testing.T) {
			tree := bvh.New()
			for i := range 4096 {
				if tree.Insert(i, l.box(i)) != api.OK {
					t.Fatalf("the box number %d could not be inserted", i)
				}
				checkHeight(t, tree)
			}
			for i := range 4096 {
				tree.Update(i, l.box(5000-i))
				checkHeight(t, tree)
			}
			checkRemovals(t, tree)
		})
	}
}

// checkRemovals removes all boxes in several orders.
func checkRemovals(t *testing.T, tree *bvh.Tree) {
	t.Helper()
	for _, order := range []func(i int) int{
		func(i int) int { return i },
		func(i int) int { return 4095 - i },
		func(i int) int { return i * 1237 % 4096 },
		func(i int) int { return i*2%4096 + i/2048 },
		func(i int) int { return i%64*64 + i/64 },
	} {
		rest := tree.Clone()
		for i := range 4096 {
			if !rest.Remove(order(i)) || rest.Len() != 4095-i {
				t.Fatalf("the box number %d could not be removed", order(i))
			}
			checkHeight(t, rest)
		}
	}
}

// P20.4: boxes gather in one place and spread again.
func TestHeightOfMovingBoxes(t *testing.T) {
	tree, d := bvh.New(), newDice(61)
	for i := range 1000 {
		tree.Insert(i, d.box(1000*one, one))
	}
	for round := range 20 {
		for i := range 1000 {
			bounds := d.box(1000*one, one)
			if round%2 == 0 {
				bounds = unit(100*round + i%3)
			}
			tree.Update(i, bounds)
			checkHeight(t, tree)
		}
	}
}

// P20.2: the height of small trees, and of trees that became small again.
func TestHeightOfSmallTrees(t *testing.T) {
	tree := bvh.New()
	heights := []int{tree.Height()}
	for i := range 3 {
		tree.Insert(i, unit(i))
		heights = append(heights, tree.Height())
	}
	for i := range 3 {
		tree.Remove(i)
		heights = append(heights, tree.Height())
	}
	if heights[3] != 2 && heights[3] != 3 {
		t.Errorf("the height of a tree with three boxes is %d", heights[3])
	}
	if heights[3] = 3; !slices.Equal(heights, []int{0, 1, 2, 3, 2, 1, 0}) {
		t.Errorf("the heights are %v", heights)
	}
}
