package sap_test

import (
	"slices"
	"testing"

	"carom/api"
	"carom/bvh"
	"carom/sap"
)

// P21.1, P21.2: all short lists of entries with two IDs and small boxes, valid and invalid ones.
func TestAllShortLists(t *testing.T) {
	var some []sap.Entry
	for id := range 2 {
		for x := range 9 {
			some = append(some, entry(id, x/3, 0, x%3, 1), entry(id, x/3, 2, x%3, 2))
		}
	}
	for _, a := range some {
		checkEntries(t, []sap.Entry{a})
		for _, b := range some {
			checkEntries(t, []sap.Entry{a, b})
			for _, c := range some {
				// The third one may have an ID of its own.
				checkEntries(t, []sap.Entry{a, b, c})
				c.ID += 2
				checkEntries(t, []sap.Entry{a, b, c})
			}
		}
	}
}

// P21.1, P21.2: random lists of entries against plain searches.
func TestRandomLists(t *testing.T) {
	d := newDice(1)
	for round := range 3000 {
		count := d.source.Intn(40)
		ids := 1 + d.source.Intn(3*count+2)
		checkEntries(t, d.entries(count, ids, fields()[round%len(fields())]))
	}
	for _, f := range fields() {
		for _, ids := range []int{3, 300, 1 << 40} {
			checkEntries(t, d.entries(600, ids, f))
		}
	}
}

// P21.2: in a narrow range of coordinates, all of them are tried.
func TestMaxOverlapInANarrowRange(t *testing.T) {
	d := newDice(2)
	for range 3000 {
		entries := d.entries(d.source.Intn(30), 40, field{12, 1 + d.source.Intn(8)})
		var want overlap
		for x := -12; x <= 12; x++ {
			if count := depth(counting(entries), x); count > want.count {
				want = overlap{count, x}
			}
		}
		if got := maxOverlap(entries); got != want {
			t.Fatalf("MaxOverlap(%v) = %v, want %v", entries, got, want)
		}
	}
}

// P21.2: all short lists of few pairs.
func TestAllShortPairLists(t *testing.T) {
	some := [][2]int{{0, 0}, {0, 1}, {1, 0}, {-1, 0}}
	lists := [][][2]int{nil}
	for from, length := 0, 0; length < 3; length++ {
		longest := lists[from:]
		from = len(lists)
		for _, list := range longest {
			for _, pair := range some {
				lists = append(lists, append(slices.Clone(list), pair))
			}
		}
	}
	for _, a := range lists {
		for _, b := range lists {
			checkPairLists(t, a, b)
		}
	}
}

// P21.2: random lists of pairs against plain searches.
func TestRandomPairLists(t *testing.T) {
	d := newDice(3)
	for range 1000 {
		limit := []int{1, 4, 20, one, high / 2}[d.source.Intn(5)]
		a, b := d.pairs(d.source.Intn(40), limit), d.pairs(d.source.Intn(40), limit)
		checkPairLists(t, a, b)
		// Many pairs are in both.
		for i := range min(len(a), len(b)) / 2 {
			b[i] = a[d.source.Intn(len(a))]
		}
		checkPairLists(t, a, b)
	}
	for _, limit := range []int{6, 20, 1000} {
		checkPairLists(t, d.pairs(700, limit), d.pairs(700, limit))
	}
}

// P21.1, P21.2: what is found anew and what is lost leads from the pairs of one list to those of another one.
func TestPairsThatComeAndGo(t *testing.T) {
	d := newDice(4)
	for round := range 300 {
		f := fields()[round%len(fields())]
		before, after := sap.Pairs(d.entries(60, 80, f)), sap.Pairs(d.entries(60, 80, f))
		gone, come := sap.SubtractPairs(before, after), sap.SubtractPairs(after, before)
		if got := sap.MergePairs(sap.SubtractPairs(before, gone), come); !slices.Equal(got, after) {
			t.Fatalf("from the pairs %v, without %v and with %v, come %v, want %v", before, gone, come, got, after)
		}
	}
}

// checkOrders holds the answers for one order of the entries against those for another one.
func checkOrders(t *testing.T, entries, other []sap.Entry) {
	t.Helper()
	if got, want := sap.Sort(other), sap.Sort(entries); !slices.Equal(got, want) {
		t.Fatalf("Sort(%v) = %v, and %v for another order", other, got, want)
	}
	if got, want := sap.Pairs(other), sap.Pairs(entries); !slices.Equal(got, want) {
		t.Fatalf("Pairs(%v) = %v, and %v for another order", other, got, want)
	}
	if got, want := maxOverlap(other), maxOverlap(entries); got != want {
		t.Fatalf("MaxOverlap(%v) = %v, and %v for another order", other, got, want)
	}
}

// P21.3: all orders of few entries with different IDs.
func TestAllOrders(t *testing.T) {
	for _, entries := range [][]sap.Entry{
		{span(4, 0, 2), span(-1, 2, 3), span(7, 1, 1), span(low, 3, 9), span(high, 0, 2), span(0, 0, 0)},
		{span(1, 0, 1), span(2, 0, 1), span(3, 0, 1), span(4, 0, 1), span(5, 0, 1), span(6, 0, 1)},
		{entry(1, 0, 0, 9, 9), entry(2, 0, 9, 1, 10), entry(3, 5, 1, 4, 2), entry(4, 9, 10, 10, 11), entry(5, -3, -3, 0, 0), entry(6, 0, 0, most+1, 0)},
	} {
		var visit func(chosen, rest []sap.Entry)
		visit = func(chosen, rest []sap.Entry) {
			if len(rest) == 0 {
				checkOrders(t, entries, chosen)
			}
			for i, e := range rest {
				visit(append(slices.Clone(chosen), e), slices.Delete(slices.Clone(rest), i, i+1))
			}
		}
		visit(nil, entries)
	}
}

// P21.3: many orders of long lists with different IDs.
func TestManyOrders(t *testing.T) {
	d := newDice(5)
	for round := range 100 {
		entries := d.different(d.source.Intn(200), fields()[round%len(fields())])
		for i := range len(entries) / 10 {
			entries[i].Bounds = d.anyBox(field{20, 3})
		}
		backwards := slices.Clone(entries)
		slices.Reverse(backwards)
		// Sort leaves out entries that have no effect.
		for _, other := range [][]sap.Entry{sap.Sort(entries), backwards, d.order(entries), d.order(entries), d.order(entries)} {
			checkOrders(t, entries, other)
		}
	}
}

// treeOf stores the boxes of the entries. A tree takes no invalid box, and only the first one with an ID.
func treeOf(t *testing.T, entries []sap.Entry) *bvh.Tree {
	t.Helper()
	tree := bvh.New()
	for _, e := range entries {
		if got := tree.Insert(e.ID, e.Bounds); got != api.OK && got != api.ErrArgument && got != api.ErrDuplicate {
			t.Fatalf("Insert(%d, %v) = %d", e.ID, e.Bounds, got)
		}
	}
	return tree
}

// checkTree holds the pairs against those of a bounding volume hierarchy with the same boxes.
func checkTree(t *testing.T, entries []sap.Entry) {
	t.Helper()
	tree := treeOf(t, entries)
	if got, want := sap.Pairs(entries), tree.Pairs(); !slices.Equal(got, want) {
		t.Fatalf("Pairs(%v) = %v, and %v in a tree", entries, got, want)
	}
	sorted := sap.Sort(entries)
	if len(sorted) != tree.Len() {
		t.Fatalf("Sort(%v) has %d entries, and a tree has %d boxes", entries, len(sorted), tree.Len())
	}
	for _, e := range sorted {
		if bounds, ok := tree.Bounds(e.ID); !ok || bounds != e.Bounds {
			t.Fatalf("Sort(%v) has the entry %v, and a tree has the box %v", entries, e, bounds)
		}
	}
}

// P21.3: the pairs are those of a bounding volume hierarchy with the same boxes.
func TestPairsOfATree(t *testing.T) {
	checkTree(t, nil)
	checkTree(t, scenery())
	d := newDice(6)
	for round := range 500 {
		f := fields()[round%len(fields())]
		checkTree(t, d.different(d.source.Intn(100), f))
		checkTree(t, d.entries(d.source.Intn(100), 60, f))
	}
}

// P21.3: the same for long lists, up to as many boxes as a tree holds.
func TestPairsOfFullTrees(t *testing.T) {
	d := newDice(7)
	for _, r := range []struct {
		count int
		f     field
	}{
		{4096, field{400, 20}},
		{4096, field{100 * one, one}},
		{4096, field{most, most / 50}},
		{1000, field{300, 600}}, // where a great part of all pairs overlap
	} {
		entries := d.different(r.count, r.f)
		checkTree(t, entries)
		checkOrders(t, entries, d.order(entries))
		if got, want := maxOverlap(entries), maxOverlapOf(entries); got != want {
			t.Errorf("MaxOverlap of %d boxes = %v, want %v", r.count, got, want)
		}
	}
}

// P21.1, P21.2: the number of entries and of pairs has no limit of its own.
func TestLongLists(t *testing.T) {
	d, count := newDice(8), 20000
	entries := d.different(count, field{most, most / 10000})
	sorted := sap.Sort(entries)
	if len(sorted) != count || !slices.IsSortedFunc(sorted, func(a, b sap.Entry) int {
		if comesFirst(a, b) {
			return -1
		}
		return 1
	}) {
		t.Errorf("Sort gives %d entries of %d, or not in their order", len(sorted), count)
	}
	pairs := sap.Pairs(entries)
	if want := pairsOf(entries); len(want) == 0 || !slices.Equal(pairs, want) {
		t.Errorf("Pairs finds %d pairs, want %d", len(pairs), len(want))
	}
	half := len(pairs) / 2
	if got := sap.MergePairs(pairs[half:], pairs); !slices.Equal(got, pairs) {
		t.Errorf("merging pairs with some of them gives %d of %d", len(got), len(pairs))
	}
	if got := sap.SubtractPairs(pairs, pairs[:half]); !slices.Equal(got, pairs[half:]) {
		t.Errorf("subtracting %d of %d pairs leaves %d", half, len(pairs), len(got))
	}
}
