package bvh

import (
	"math/rand"
	"testing"

	"carom/api"
)

// checkNode checks what the searches and the height rely on, at and below n. It returns the number of leaves.
func checkNode(t *testing.T, tree *Tree, n *node) int {
	t.Helper()
	if n.isLeaf() {
		if tree.leaves[n.id] != n || n.children != ([2]*node{}) {
			t.Fatalf("the leaf %d is not in its place", n.id)
		}
		return 1
	}
	a, b := n.children[0], n.children[1]
	if a.parent != n || b.parent != n || a == b {
		t.Fatal("a node is not the parent of its children")
	}
	if n.height != 1+max(a.height, b.height) || max(a.height-b.height, b.height-a.height) > 1 {
		t.Fatalf("a node of height %d has children of the heights %d and %d", n.height, a.height, b.height)
	}
	around := api.AABB{
		Min: api.Vec{X: min(a.bounds.Min.X, b.bounds.Min.X), Y: min(a.bounds.Min.Y, b.bounds.Min.Y)},
		Max: api.Vec{X: max(a.bounds.Max.X, b.bounds.Max.X), Y: max(a.bounds.Max.Y, b.bounds.Max.Y)},
	}
	if n.bounds != around {
		t.Fatalf("the box of a node is %v, its children need %v", n.bounds, around)
	}
	return checkNode(t, tree, a) + checkNode(t, tree, b)
}

// checkNodes checks the whole tree.
func checkNodes(t *testing.T, tree *Tree) {
	t.Helper()
	leaves := 0
	if tree.root != nil {
		if tree.root.parent != nil {
			t.Fatal("the root has a parent")
		}
		leaves = checkNode(t, tree, tree.root)
	}
	if leaves != len(tree.leaves) {
		t.Fatalf("the tree has %d leaves, but %d IDs", leaves, len(tree.leaves))
	}
}

// P20.2, P20.4: boxes of inner nodes are no larger than needed, and siblings are almost equally high, after every operation.
func TestNodes(t *testing.T) {
	source := rand.New(rand.NewSource(1))
	tree := New()
	for i := range 20000 {
		x, y := source.Intn(5000), source.Intn(5000)
		bounds := api.AABB{Min: api.Vec{X: x, Y: y}, Max: api.Vec{X: x + source.Intn(300), Y: y + source.Intn(300)}}
		id := source.Intn(150)
		switch source.Intn(4) {
		case 0:
			tree.Remove(id)
		case 1:
			tree.Update(id, bounds)
		default:
			tree.Insert(id, bounds)
		}
		checkNodes(t, tree)
		if i%1000 == 0 {
			tree = tree.Clone()
			checkNodes(t, tree)
		}
	}
	for id := range 150 {
		tree.Remove(id)
		checkNodes(t, tree)
	}
}

// P20.2: a search passes over the boxes that are far away.
func TestSearchVisitsFewNodes(t *testing.T) {
	tree := New()
	for i := range 4096 {
		x, y := i%64*10, i/64*10
		tree.Insert(i, api.AABB{Min: api.Vec{X: x, Y: y}, Max: api.Vec{X: x + 8, Y: y + 8}})
	}
	visits := 0
	tree.search(func(b api.AABB) bool {
		visits++
		return b.Min.X <= 300 && 300 <= b.Max.X && b.Min.Y <= 300 && 300 <= b.Max.Y
	})
	if visits > 400 {
		t.Errorf("a search for a point visits %d of %d nodes", visits, 2*4096-1)
	}
}
