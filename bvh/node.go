package bvh

import (
	"carom/aabb"
	"carom/api"
)

// node is a leaf with a stored box, or an inner node with the box around its two children. The heights of siblings differ by at most 1, which keeps the tree low whatever the order of the operations is.
type node struct {
	id       int // of a leaf
	bounds   api.AABB
	height   int
	parent   *node
	children [2]*node // of an inner node
}

func newLeaf(id int, bounds api.AABB) *node {
	return &node{id: id, bounds: bounds, height: 1}
}

func (n *node) isLeaf() bool {
	return n.height == 1
}

// adopt makes a and b the children of n.
func (n *node) adopt(a, b *node) {
	n.children = [2]*node{a, b}
	a.parent, b.parent = n, n
	n.bounds = aabb.Union(a.bounds, b.bounds)
	n.height = 1 + max(a.height, b.height)
}

// collect appends the IDs of the leaves at and below n that meet something to ids.
func (n *node) collect(ids []int, meets func(api.AABB) bool) []int {
	switch {
	case !meets(n.bounds):
		return ids
	case n.isLeaf():
		return append(ids, n.id)
	}
	for _, child := range n.children {
		ids = child.collect(ids, meets)
	}
	return ids
}

// growth returns by how much the box of n grows if it takes in another one.
func (n *node) growth(bounds api.AABB) int {
	return aabb.HalfPerimeter(aabb.Union(n.bounds, bounds)) - aabb.HalfPerimeter(n.bounds)
}

// closerChild returns the child of n whose box grows less if it takes in another one.
func (n *node) closerChild(bounds api.AABB) *node {
	first, second := n.children[0], n.children[1]
	if second.growth(bounds) < first.growth(bounds) {
		return second
	}
	return first
}

// closestLeaf returns the leaf at or below n that is reached by always choosing the closer child.
func (n *node) closestLeaf(bounds api.AABB) *node {
	for !n.isLeaf() {
		n = n.closerChild(bounds)
	}
	return n
}

// attach adds a leaf to the tree, as the sibling of one that is close to it.
func (t *Tree) attach(leaf *node) {
	if t.root == nil {
		t.root = leaf
		return
	}
	sibling, fork := t.root.closestLeaf(leaf.bounds), &node{}
	t.replace(sibling, fork)
	fork.adopt(sibling, leaf)
	t.mend(fork.parent)
}

// detach takes a leaf out of the tree. Its sibling takes the place of their parent.
func (t *Tree) detach(leaf *node) {
	fork := leaf.parent
	if fork == nil {
		t.root = nil
		return
	}
	sibling := fork.children[0]
	if sibling == leaf {
		sibling = fork.children[1]
	}
	t.replace(fork, sibling)
	t.mend(sibling.parent)
}

// replace puts the node n into the place of another one.
func (t *Tree) replace(other, n *node) {
	n.parent = other.parent
	switch {
	case n.parent == nil:
		t.root = n
	case n.parent.children[0] == other:
		n.parent.children[0] = n
	default:
		n.parent.children[1] = n
	}
}

// mend restores the boxes, the heights and the balance of n and of the nodes above it, after one of its children changed its height by at most 1.
func (t *Tree) mend(n *node) {
	for n != nil {
		n = t.balance(n).parent
	}
}

// balance restores n, and lifts its higher child into its place if that is higher than the other one by more than 1. It returns the node that is in the place of n then.
func (t *Tree) balance(n *node) *node {
	low, high := n.children[0], n.children[1]
	if low.height > high.height {
		low, high = high, low
	}
	if high.height-low.height <= 1 {
		n.adopt(low, high)
		return n
	}
	given, kept := high.split(low.bounds)
	t.replace(n, high)
	n.adopt(low, given)
	high.adopt(n, kept)
	return high
}

// split tells which child n gives away when it is lifted, and which one it keeps: it keeps the higher one. If both are equally high, it gives away the one that is closer to its new sibling.
func (n *node) split(sibling api.AABB) (given, kept *node) {
	given = n.closerChild(sibling)
	kept = n.children[0]
	if kept == given {
		kept = n.children[1]
	}
	if given.height > kept.height {
		return kept, given
	}
	return given, kept
}

// copyOf returns a copy of n and of all that is below it, whose leaves become leaves of t.
func (t *Tree) copyOf(n *node) *node {
	if n.isLeaf() {
		leaf := newLeaf(n.id, n.bounds)
		t.leaves[n.id] = leaf
		return leaf
	}
	inner := &node{}
	inner.adopt(t.copyOf(n.children[0]), t.copyOf(n.children[1]))
	return inner
}
