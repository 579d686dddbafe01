package bvh_test

import (
	"math"
	"slices"
	"testing"

	"carom/api"
	"carom/bvh"
)

const (
	one  = api.One
	most = api.MaxValue
	low  = math.MinInt
	high = math.MaxInt
)

// found is what Bounds answers.
type found struct {
	bounds api.AABB
	ok     bool
}

func vec(x, y int) api.Vec {
	return api.Vec{X: x, Y: y}
}

func box(minX, minY, maxX, maxY int) api.AABB {
	return api.AABB{Min: vec(minX, minY), Max: vec(maxX, maxY)}
}

// unit is the box between x and x+1.
func unit(x int) api.AABB {
	return box(x, 0, x+1, 1)
}

func everywhere() api.AABB {
	return box(-most, -most, most, most)
}

func boundsOf(tree *bvh.Tree, id int) found {
	bounds, ok := tree.Bounds(id)
	return found{bounds, ok}
}

// treeOf inserts the boxes in their order.
func treeOf(t *testing.T, boxes ...stored) *bvh.Tree {
	t.Helper()
	tree := bvh.New()
	for _, s := range boxes {
		if e := tree.Insert(s.id, s.bounds); e != api.OK {
			t.Fatalf("Insert(%d, %v) = %d", s.id, s.bounds, e)
		}
	}
	return tree
}

// invalidBoxes are boxes of each kind that is not valid.
func invalidBoxes() []api.AABB {
	return []api.AABB{
		box(1, 0, 0, 1), box(0, 1, 1, 0), box(9, 9, 3, 3), box(most, 0, -most, 0),
		box(-most-1, 0, 1, 1), box(0, -most-1, 1, 1), box(0, 0, most+1, 1), box(0, 0, 1, most+1),
		box(most+1, 0, most+1, 1), box(0, -most-1, 1, -most-1), box(low, low, high, high), box(high, high, low, low),
	}
}

// checkHeight holds the height against P20.4 and against the heights of the smallest trees.
func checkHeight(t *testing.T, tree *bvh.Tree) {
	t.Helper()
	digits := 0
	for n := tree.Len(); n > 0; n /= 2 {
		digits++
	}
	height := tree.Height()
	if least := min(tree.Len(), 2); height < least || height > 2*digits+1 || tree.Len() < 3 && height != tree.Len() {
		t.Fatalf("the height of a tree with %d boxes is %d", tree.Len(), height)
	}
}

// checkSearch compares one search of each kind.
func checkSearch(t *testing.T, tree *bvh.Tree, want *list, bounds api.AABB, from, to api.Vec) {
	t.Helper()
	if got, want := tree.Query(bounds), want.query(bounds); !slices.Equal(got, want) {
		t.Fatalf("Query(%v) = %v, want %v", bounds, got, want)
	}
	if got, want := tree.RayQuery(from, to), want.rayQuery(from, to); !slices.Equal(got, want) {
		t.Fatalf("RayQuery(%v, %v) = %v, want %v", from, to, got, want)
	}
}

// checkTree compares all that a tree answers with a list, some of the searches among them.
func checkTree(t *testing.T, tree *bvh.Tree, want *list) {
	t.Helper()
	if got := tree.Len(); got != len(want.boxes) {
		t.Fatalf("Len() = %d, want %d", got, len(want.boxes))
	}
	for _, s := range want.boxes {
		if got := boundsOf(tree, s.id); got != (found{s.bounds, true}) {
			t.Fatalf("Bounds(%d) = %v, want %v", s.id, got, s.bounds)
		}
	}
	if got, want := tree.Pairs(), want.pairs(); !slices.Equal(got, want) {
		t.Fatalf("Pairs() = %v, want %v", got, want)
	}
	checkHeight(t, tree)
	checkSearch(t, tree, want, everywhere(), vec(-most, -most), vec(most, most))
	for _, s := range want.boxes[:min(len(want.boxes), 20)] {
		checkSearch(t, tree, want, s.bounds, s.bounds.Min, s.bounds.Max)
	}
}

// P20.1: New and the zero Tree.
func TestEmptyTree(t *testing.T) {
	var zero bvh.Tree
	for _, tree := range []*bvh.Tree{bvh.New(), &zero, {}, new(bvh.Tree).Clone(), bvh.New().Clone()} {
		checkTree(t, tree, &list{})
		if tree.Len() != 0 || tree.Height() != 0 || len(tree.Query(everywhere())) != 0 || len(tree.RayQuery(vec(0, 0), vec(9, 9))) != 0 || len(tree.Pairs()) != 0 {
			t.Error("an empty tree has something")
		}
		if tree.Remove(0) || boundsOf(tree, 0) != (found{}) || tree.Update(0, unit(0)) != api.ErrNotFound || tree.Update(0, box(1, 0, 0, 0)) != api.ErrArgument {
			t.Error("an empty tree has the ID 0")
		}
		if tree.Insert(0, box(1, 0, 0, 0)) != api.ErrArgument || tree.Len() != 0 {
			t.Error("an empty tree takes an invalid box")
		}
		if tree.Insert(7, unit(0)) != api.OK || tree.Insert(3, unit(1)) != api.OK {
			t.Fatal("an empty tree is not ready to use")
		}
		checkTree(t, tree, &list{[]stored{{3, unit(1)}, {7, unit(0)}}})
	}
	if first, second := bvh.New(), bvh.New(); first.Insert(1, unit(0)) != api.OK || second.Len() != 0 {
		t.Error("two new trees are one")
	}
}

// P20.1, P20.2: a nil Tree.
func TestNilTree(t *testing.T) {
	var tree *bvh.Tree
	for _, bounds := range append(invalidBoxes(), unit(0)) {
		if got := tree.Insert(1, bounds); got != api.ErrNil {
			t.Errorf("Insert(1, %v) = %d", bounds, got)
		}
		if got := tree.Update(1, bounds); got != api.ErrNil {
			t.Errorf("Update(1, %v) = %d", bounds, got)
		}
		if got := tree.Query(bounds); got != nil {
			t.Errorf("Query(%v) = %v", bounds, got)
		}
	}
	if tree.Remove(1) || boundsOf(tree, 1) != (found{}) || tree.Len() != 0 || tree.Height() != 0 {
		t.Error("a nil tree has something")
	}
	if tree.RayQuery(vec(0, 0), vec(1, 1)) != nil || tree.Pairs() != nil || tree.Clone() != nil {
		t.Error("a nil tree gives something")
	}
}

// P20.1
func TestInsert(t *testing.T) {
	tree, want := bvh.New(), &list{}
	for _, s := range []stored{
		{5, unit(0)}, {3, unit(1)}, {0, box(-3*one, one, 5*one, 2*one)}, {-1, box(2, 2, 2, 2)}, {1, box(0, 0, 0, 0)}, {2, unit(0)},
		{low, box(1, -4, 1, 9)}, {high, box(-4, 1, 9, 1)}, {low + 1, everywhere()}, {high - 1, box(most, most, most, most)}, {1 << 40, box(-most, -most, -most, 0)},
	} {
		if got := tree.Insert(s.id, s.bounds); got != api.OK {
			t.Errorf("Insert(%d, %v) = %d", s.id, s.bounds, got)
		}
		want.insert(s.id, s.bounds)
		checkTree(t, tree, want)
	}
	for _, bounds := range invalidBoxes() {
		for _, id := range []int{4, 5, low, high} {
			if got := tree.Insert(id, bounds); got != api.ErrArgument {
				t.Errorf("Insert(%d, %v) = %d", id, bounds, got)
			}
		}
	}
	for _, s := range want.boxes {
		for _, bounds := range []api.AABB{s.bounds, unit(50), everywhere()} {
			if got := tree.Insert(s.id, bounds); got != api.ErrDuplicate {
				t.Errorf("Insert(%d, %v) = %d, but the ID is in use", s.id, bounds, got)
			}
		}
	}
	checkTree(t, tree, want)
}

// full is a list of 4096 boxes that hardly overlap each other.
func full() *list {
	want := &list{}
	for i := range 4096 {
		want.boxes = append(want.boxes, stored{i*7 - 9000, box(i%64*10, i/64*10, i%64*10+8, i/64*10+i%20)})
	}
	return want
}

// P20.1: a tree holds 4096 boxes.
func TestFullTree(t *testing.T) {
	want := full()
	tree := treeOf(t, want.boxes[:4095]...)
	checkTree(t, tree, &list{want.boxes[:4095]})
	last := want.boxes[4095]
	if got := tree.Insert(last.id, last.bounds); got != api.OK {
		t.Fatalf("inserting the box number 4096 gives %d", got)
	}
	checkTree(t, tree, want)
	for _, r := range []struct {
		id     int
		bounds api.AABB
		want   api.Errno
	}{
		{1, unit(0), api.ErrFull},
		{low, last.bounds, api.ErrFull},
		{last.id, unit(0), api.ErrDuplicate},
		{last.id, last.bounds, api.ErrDuplicate},
		{1, box(1, 0, 0, 0), api.ErrArgument},
		{last.id, box(0, 0, most+1, 0), api.ErrArgument},
	} {
		if got := tree.Insert(r.id, r.bounds); got != r.want {
			t.Errorf("Insert(%d, %v) = %d in a full tree, want %d", r.id, r.bounds, got, r.want)
		}
	}
	for _, bounds := range []api.AABB{unit(0), everywhere(), unit(-70)} {
		if got, expected := tree.Update(last.id, bounds), want.update(last.id, bounds); got != expected {
			t.Errorf("Update(%d, %v) = %d in a full tree", last.id, bounds, got)
		}
	}
	if tree.Update(1, unit(0)) != api.ErrNotFound || tree.Remove(1) {
		t.Error("a full tree has an ID that was rejected")
	}
	checkTree(t, tree, want)
	if !tree.Remove(want.boxes[77].id) || tree.Insert(1, unit(3)) != api.OK || tree.Insert(3, unit(3)) != api.ErrFull {
		t.Error("a full tree does not take one box in the place of another one")
	}
	want.remove(want.boxes[77].id)
	want.insert(1, unit(3))
	checkTree(t, tree, want)
}

// P20.1
func TestRemove(t *testing.T) {
	want := &list{[]stored{{5, unit(0)}, {3, unit(1)}, {-7, unit(0)}, {low, unit(9)}, {high, box(1, 1, 1, 1)}}}
	tree := treeOf(t, want.boxes...)
	for _, r := range []struct {
		id int
		ok bool
	}{{4, false}, {3, true}, {3, false}, {0, false}, {-5, false}, {low, true}, {low, false}, {high, true}, {5, true}, {7, false}, {-7, true}, {-7, false}, {5, false}} {
		if got := tree.Remove(r.id); got != r.ok {
			t.Errorf("Remove(%d) = %v", r.id, got)
		}
		want.remove(r.id)
		checkTree(t, tree, want)
		if got := boundsOf(tree, r.id); got != (found{}) {
			t.Errorf("Bounds(%d) = %v, but the ID was removed", r.id, got)
		}
	}
	// A removed ID can be used again.
	if tree.Insert(3, unit(4)) != api.OK || tree.Update(5, unit(4)) != api.ErrNotFound {
		t.Error("a tree without boxes is not like a new one")
	}
	checkTree(t, tree, &list{[]stored{{3, unit(4)}}})
}

// P20.1: all boxes are removed, in every order.
func TestRemoveInEveryOrder(t *testing.T) {
	boxes := []stored{{1, unit(0)}, {2, unit(1)}, {3, unit(2)}, {4, unit(10)}, {5, box(-5, -5, 20, 5)}, {6, unit(1)}}
	var visit func(tree *bvh.Tree, want *list)
	visit = func(tree *bvh.Tree, want *list) {
		checkTree(t, tree, want)
		for _, s := range want.boxes {
			smaller, rest := tree.Clone(), want.clone()
			if !smaller.Remove(s.id) || smaller.Remove(s.id) {
				t.Fatalf("Remove(%d) is wrong for the boxes %v", s.id, want.boxes)
			}
			rest.remove(s.id)
			visit(smaller, rest)
		}
	}
	visit(treeOf(t, boxes...), &list{boxes})
}

// P20.1
func TestUpdate(t *testing.T) {
	want := &list{[]stored{{5, unit(0)}, {3, unit(1)}, {-7, unit(4)}, {8, unit(6)}, {low, unit(9)}}}
	tree := treeOf(t, want.boxes...)
	for _, s := range []stored{
		{5, unit(0)}, {5, box(-1, -1, 3, 3)}, {5, everywhere()}, {5, box(1, 1, 1, 1)}, {5, unit(1 << 20)}, {5, unit(0)},
		{3, unit(4)}, {-7, box(-most, -most, -most, -most)}, {low, unit(1)}, {8, unit(1)}, {3, box(most, 0, most, 0)},
	} {
		if got := tree.Update(s.id, s.bounds); got != api.OK {
			t.Errorf("Update(%d, %v) = %d", s.id, s.bounds, got)
		}
		want.update(s.id, s.bounds)
		checkTree(t, tree, want)
	}
	for _, id := range []int{4, 0, -5, low + 1, high} {
		if got := tree.Update(id, unit(0)); got != api.ErrNotFound {
			t.Errorf("Update(%d, %v) = %d", id, unit(0), got)
		}
	}
	for _, bounds := range invalidBoxes() {
		for _, id := range []int{5, 4, low, high} {
			if got := tree.Update(id, bounds); got != api.ErrArgument {
				t.Errorf("Update(%d, %v) = %d", id, bounds, got)
			}
		}
	}
	checkTree(t, tree, want)
}

// P20.1: the only box of a tree is updated.
func TestUpdateOfTheOnlyBox(t *testing.T) {
	tree := treeOf(t, stored{1, unit(0)})
	for _, bounds := range []api.AABB{unit(0), unit(7), everywhere(), box(2, 2, 2, 2)} {
		if tree.Update(1, bounds) != api.OK || tree.Height() != 1 {
			t.Errorf("Update(1, %v) is wrong", bounds)
		}
		checkTree(t, tree, &list{[]stored{{1, bounds}}})
	}
}

// P20.1: the clone of a tree has the same boxes, and a change of one of the two leaves the other as it is.
func TestClone(t *testing.T) {
	for _, count := range []int{0, 1, 2, 3, 50, 4096} {
		want := &list{full().boxes[:count]}
		tree := treeOf(t, want.boxes...)
		clone, second := tree.Clone(), tree.Clone()
		checkTree(t, clone, want)
		if clone.Height() != tree.Height() {
			t.Errorf("the clone of a tree of height %d has the height %d", tree.Height(), clone.Height())
		}
		changeAll(t, clone, want)
		checkTree(t, tree, want)
		checkTree(t, second, want)
		changeAll(t, tree, want)
		checkTree(t, second, want)
	}
}

// changeAll removes every second box of the tree, moves the others, and adds one.
func changeAll(t *testing.T, tree *bvh.Tree, boxes *list) {
	t.Helper()
	after := &list{}
	for i, s := range boxes.boxes {
		if i%2 == 0 && !tree.Remove(s.id) || i%2 == 1 && tree.Update(s.id, unit(-7*i)) != api.OK {
			t.Fatalf("the box with the ID %d is missing", s.id)
		}
		if i%2 == 1 {
			after.insert(s.id, unit(-7*i))
		}
	}
	if tree.Insert(1, unit(0)) != api.OK {
		t.Fatal("a box could not be inserted")
	}
	after.insert(1, unit(0))
	checkTree(t, tree, after)
}

// scenery has boxes in many positions to each other.
func scenery() []stored {
	return []stored{
		{10, box(0, 0, 10, 10)},
		{-4, box(10, 0, 20, 10)},  // touches 10 at a side
		{7, box(20, 10, 30, 20)},  // touches -4 at a corner
		{3, box(2, 2, 4, 4)},      // within 10
		{12, box(0, 0, 10, 10)},   // equal to 10
		{0, box(15, 5, 15, 5)},    // a point within -4
		{-9, box(0, 11, 10, 12)},  // misses 10 by one unit
		{25, box(40, -50, 40, 9)}, // a line
		{high, box(-30, -30, -20, -20)},
	}
}

// P20.2
func TestQuery(t *testing.T) {
	tree, want := treeOf(t, scenery()...), &list{scenery()}
	all := []int{-9, -4, 0, 3, 7, 10, 12, 25, high}
	for _, r := range []struct {
		bounds api.AABB
		want   []int
	}{
		{everywhere(), all},
		{box(-30, -50, 40, 20), all},
		{box(-20, 9, 40, 11), []int{-9, -4, 7, 10, 12, 25}},
		{box(3, 3, 17, 7), []int{-4, 0, 3, 10, 12}},
		{box(3, 3, 3, 3), []int{3, 10, 12}},
		{box(0, 0, 10, 10), []int{-4, 3, 10, 12}},
		// Common sides and corners, and past them by one.
		{box(-5, 0, 0, 10), []int{10, 12}},
		{box(-5, 0, -1, 10), nil},
		{box(-5, -5, 0, 0), []int{10, 12}},
		{box(-5, -5, 0, -1), nil},
		{box(30, 20, 35, 25), []int{7}},
		{box(31, 20, 35, 25), nil},
		{box(30, 21, 35, 25), nil},
		{box(0, 12, 10, 15), []int{-9}},
		{box(0, 13, 10, 15), nil},
		{box(10, 11, 10, 11), []int{-9}},
		{box(11, 11, 19, 19), nil},
		{box(15, 5, 15, 5), []int{-4, 0}},
		{box(16, 5, 16, 5), []int{-4}},
		{box(40, 9, 40, 9), []int{25}},
		{box(40, 10, 40, 10), nil},
		{box(39, -60, 39, 60), nil},
		{box(-20, -20, -20, -20), []int{high}},
		{box(-19, -20, -19, -20), nil},
		{box(most, most, most, most), nil},
		// Invalid boxes overlap nothing.
		{box(10, 0, 0, 10), nil},
		{box(0, 10, 10, 0), nil},
		{box(-most-1, -most, most, most), nil},
		{box(-most, -most-1, most, most), nil},
		{box(-most, -most, most+1, most), nil},
		{box(-most, -most, most, most+1), nil},
		{box(low, low, high, high), nil},
	} {
		if got := tree.Query(r.bounds); !slices.Equal(got, r.want) {
			t.Errorf("Query(%v) = %v, want %v", r.bounds, got, r.want)
		}
		if got := want.query(r.bounds); !slices.Equal(got, r.want) {
			t.Errorf("Query(%v): the list says %v, the row %v", r.bounds, got, r.want)
		}
	}
}

// P20.2: the zero box is valid, it is the origin.
func TestQueryOfTheZeroBox(t *testing.T) {
	tree := treeOf(t, stored{1, box(-1, -1, 0, 0)}, stored{2, box(1, 0, 1, 0)}, stored{3, api.AABB{}})
	if got := tree.Query(api.AABB{}); !slices.Equal(got, []int{1, 3}) {
		t.Errorf("Query of the zero box = %v", got)
	}
}

// P20.2
func TestRayQuery(t *testing.T) {
	tree, want := treeOf(t, scenery()...), &list{scenery()}
	for _, r := range []struct {
		from, to api.Vec
		want     []int
	}{
		// Across, along a side and past it by one.
		{vec(-50, 5), vec(50, 5), []int{-4, 0, 10, 12, 25}},
		{vec(-50, 3), vec(50, 3), []int{-4, 3, 10, 12, 25}},
		{vec(-50, 10), vec(50, 10), []int{-4, 7, 10, 12}},
		{vec(-50, 11), vec(50, 11), []int{-9, 7}},
		{vec(-50, 13), vec(19, 13), nil},
		{vec(0, 50), vec(0, -50), []int{-9, 10, 12}},
		{vec(-1, 50), vec(-1, -50), nil},
		{vec(40, 50), vec(40, -60), []int{25}},
		{vec(41, 50), vec(41, -60), nil},
		// Slanting, through corners and past them.
		{vec(9, -1), vec(31, 21), []int{-4, 0, 7, 10, 12}},
		{vec(9, -1), vec(31, 22), []int{-4, 7, 10, 12}},
		{vec(9, -2), vec(32, 21), []int{-4, 7}},
		{vec(19, 11), vec(21, 9), []int{-4, 7}},
		{vec(19, 12), vec(21, 10), []int{7}},
		{vec(-1, 1), vec(1, -1), []int{10, 12}},
		{vec(-2, 1), vec(1, -2), nil},
		{vec(-31, -19), vec(-19, -31), []int{high}},
		{vec(-31, -9), vec(-9, -31), []int{high}},
		{vec(-30, -9), vec(-9, -30), nil},
		// From, to and within boxes.
		{vec(3, 3), vec(3, 3), []int{3, 10, 12}},
		{vec(3, 3), vec(3, 4), []int{3, 10, 12}},
		{vec(5, 5), vec(6, 7), []int{10, 12}},
		{vec(5, 5), vec(5, 30), []int{-9, 10, 12}},
		{vec(5, 30), vec(5, 12), []int{-9}},
		{vec(5, 30), vec(5, 13), nil},
		{vec(39, 9), vec(40, 9), []int{25}},
		// Of length 0.
		{vec(10, 10), vec(10, 10), []int{-4, 10, 12}},
		{vec(15, 5), vec(15, 5), []int{-4, 0}},
		{vec(16, 11), vec(16, 11), nil},
		// The ends are saturated.
		{vec(low, 5), vec(high, 5), []int{-4, 0, 10, 12, 25}},
		{vec(5, high), vec(5, most+1), nil},
		{vec(low, low), vec(high, high), []int{-4, 3, 7, 10, 12, high}},
		{vec(-most, -most), vec(most, most), []int{-4, 3, 7, 10, 12, high}},
	} {
		for _, ends := range [][2]api.Vec{{r.from, r.to}, {r.to, r.from}} {
			if got := tree.RayQuery(ends[0], ends[1]); !slices.Equal(got, r.want) {
				t.Errorf("RayQuery(%v, %v) = %v, want %v", ends[0], ends[1], got, r.want)
			}
			if got := want.rayQuery(ends[0], ends[1]); !slices.Equal(got, r.want) {
				t.Errorf("RayQuery(%v, %v): the list says %v, the row %v", ends[0], ends[1], got, r.want)
			}
		}
	}
}

// P20.2
func TestPairs(t *testing.T) {
	for _, r := range []struct {
		boxes []stored
		want  [][2]int
	}{
		{nil, nil},
		{[]stored{{1, everywhere()}}, nil},
		{[]stored{{5, unit(0)}, {3, unit(1)}}, [][2]int{{3, 5}}},
		{[]stored{{5, unit(0)}, {3, unit(2)}}, nil},
		{[]stored{{-3, unit(0)}, {-5, unit(0)}}, [][2]int{{-5, -3}}},
		{[]stored{{high, unit(0)}, {low, unit(0)}, {0, unit(0)}}, [][2]int{{low, 0}, {low, high}, {0, high}}},
		// One against many.
		{[]stored{{2, unit(0)}, {1, unit(3)}, {4, everywhere()}, {9, unit(6)}, {3, unit(9)}}, [][2]int{{1, 4}, {2, 4}, {3, 4}, {4, 9}}},
		{[]stored{{0, unit(0)}, {1, unit(1)}, {2, unit(2)}, {3, unit(3)}}, [][2]int{{0, 1}, {1, 2}, {2, 3}}},
		{[]stored{{3, unit(0)}, {1, unit(1)}, {0, unit(2)}, {2, unit(3)}}, [][2]int{{0, 1}, {0, 2}, {1, 3}}},
		{scenery(), [][2]int{{-4, 0}, {-4, 7}, {-4, 10}, {-4, 12}, {3, 10}, {3, 12}, {10, 12}}},
	} {
		if got := treeOf(t, r.boxes...).Pairs(); !slices.Equal(got, r.want) {
			t.Errorf("Pairs of %v = %v, want %v", r.boxes, got, r.want)
		}
		if got := (&list{r.boxes}).pairs(); !slices.Equal(got, r.want) {
			t.Errorf("Pairs of %v: the list says %v, the row %v", r.boxes, got, r.want)
		}
	}
}

// P20.2: all of many boxes overlap.
func TestPairsOfManyBoxes(t *testing.T) {
	tree, count := bvh.New(), 400
	for i := range count {
		tree.Insert(i*37%count-200, box(-i, -count+i, i, count))
	}
	pairs := tree.Pairs()
	for a := range count {
		for b := a + 1; b < count; b++ {
			if len(pairs) == 0 || pairs[0] != [2]int{a - 200, b - 200} {
				t.Fatalf("instead of the pair %d, %d there are the pairs %v", a-200, b-200, pairs[:min(len(pairs), 3)])
			}
			pairs = pairs[1:]
		}
	}
	if len(pairs) > 0 {
		t.Errorf("there are %d pairs too many", len(pairs))
	}
}

// P20.2: what is done to a result changes nothing in the tree.
func TestResultsAreNewMemory(t *testing.T) {
	for _, boxes := range [][]stored{{{4, unit(0)}}, scenery()} {
		tree, want := treeOf(t, boxes...), &list{boxes}
		from, to := vec(-50, 3), vec(50, 3)
		query, ray, pairs := tree.Query(everywhere()), tree.RayQuery(from, to), tree.Pairs()
		for range 2 {
			for i := range query {
				query[i] = 99
			}
			for i := range ray {
				ray[i] = 99
			}
			for i := range pairs {
				pairs[i] = [2]int{99, 98}
			}
			query, ray, pairs = append(query, 1), append(ray, 1), append(pairs, [2]int{1, 1})
			checkTree(t, tree, want)
			checkSearch(t, tree, want, everywhere(), from, to)
		}
		kept := tree.Query(everywhere())
		for _, s := range boxes {
			tree.Remove(s.id)
		}
		if !slices.Equal(kept, want.query(everywhere())) {
			t.Errorf("removing the boxes made a former result %v", kept)
		}
	}
}

// The example of chapter 20.
func TestExample(t *testing.T) {
	tree := bvh.New()
	if tree.Insert(5, box(0, 0, 2*one, 2*one)) != api.OK || tree.Insert(3, box(one, one, 3*one, 3*one)) != api.OK {
		t.Fatal("two boxes could not be inserted")
	}
	if got := tree.Pairs(); !slices.Equal(got, [][2]int{{3, 5}}) {
		t.Errorf("Pairs() = %v", got)
	}
}
