package sap_test

import (
	"slices"
	"testing"

	"carom/sap"
)

// guarded is a list with more items behind its length, and a copy of all of them.
type guarded[T comparable] struct {
	list, all, before []T
}

func guard[T comparable](list []T, behind ...T) guarded[T] {
	all := slices.Concat(list, behind)
	return guarded[T]{all[:len(list)], all, slices.Clone(all)}
}

func (g guarded[T]) check(t *testing.T, name string) {
	t.Helper()
	if !slices.Equal(g.all, g.before) {
		t.Fatalf("%s made the argument %v, with what is behind it, %v", name, g.before[:len(g.list)], g.all)
	}
}

// spoil changes all items of a result, and those behind its length.
func spoil[T any](list []T, item T) {
	for i := range list[:cap(list)] {
		list[:cap(list)][i] = item
	}
}

// P21.1, P21.2: no function of entries changes them, neither by itself nor by what is done to its result.
func TestEntriesStayAsTheyAre(t *testing.T) {
	sorted := []sap.Entry{span(1, 0, 1), span(2, 1, 5), span(3, 3, 9)}
	reverse := slices.Clone(sorted)
	slices.Reverse(reverse)
	twice := append(reverse, span(3, 0, 0), span(8, 4, 3))
	for _, entries := range [][]sap.Entry{nil, {span(4, 3, 4)}, {span(4, 4, 3)}, sorted, reverse, twice, scenery()} {
		g := guard(entries, span(99, -1, -1), span(98, -5, 2), span(99, 0, 0))
		got, again := sap.Sort(g.list), sap.Sort(g.list)
		g.check(t, "Sort")
		spoil(got, span(77, 7, 7))
		g.check(t, "changing the result of Sort")
		if want := sortOf(entries); !slices.Equal(again, want) {
			t.Errorf("changing a result of Sort made another one %v, want %v", again, want)
		}
		pairs, pairsAgain := sap.Pairs(g.list), sap.Pairs(g.list)
		g.check(t, "Pairs")
		spoil(pairs, [2]int{77, 77})
		g.check(t, "changing the result of Pairs")
		if want := pairsOf(entries); !slices.Equal(pairsAgain, want) {
			t.Errorf("changing a result of Pairs made another one %v, want %v", pairsAgain, want)
		}
		sap.MaxOverlap(g.list)
		g.check(t, "MaxOverlap")
		checkEntries(t, g.list)
	}
}

// pairLists are lists that are sorted or not, and that have duplicates or not.
func pairLists() [][][2]int {
	return [][][2]int{
		nil, {}, {{1, 2}}, {{1, 2}, {3, 4}}, {{3, 4}, {1, 2}}, {{1, 2}, {1, 2}}, {{3, 4}, {1, 2}, {1, 2}, {3, 4}},
		{{2, 1}, {1, 1}, {1, 2}}, {{5, 6}, {7, 8}, {9, 10}}, {{9, 10}, {7, 8}, {5, 6}, {3, 4}},
	}
}

// P21.2: no function of pairs changes them, neither by itself nor by what is done to its result.
func TestPairListsStayAsTheyAre(t *testing.T) {
	for _, a := range pairLists() {
		for _, b := range pairLists() {
			// There is room behind both lists for the items of the other one.
			behind := [][2]int{{99, 98}, {0, 0}, {99, 98}, {1, 2}, {-3, 4}}
			first, second := guard(a, behind...), guard(b, behind...)
			merged, rest := sap.MergePairs(first.list, second.list), sap.SubtractPairs(first.list, second.list)
			mergedAgain, restAgain := sap.MergePairs(first.list, second.list), sap.SubtractPairs(first.list, second.list)
			first.check(t, "MergePairs or SubtractPairs")
			second.check(t, "MergePairs or SubtractPairs")
			spoil(merged, [2]int{77, 77})
			spoil(rest, [2]int{78, 78})
			first.check(t, "changing a result")
			second.check(t, "changing a result")
			if want := mergeOf(a, b); !slices.Equal(mergedAgain, want) {
				t.Errorf("changing a result of MergePairs made another one %v, want %v", mergedAgain, want)
			}
			if want := subtractOf(a, b); !slices.Equal(restAgain, want) {
				t.Errorf("changing a result of SubtractPairs made another one %v, want %v", restAgain, want)
			}
		}
	}
}

// P21.2: the two arguments are one list, or parts of one.
func TestPairListsThatShareMemory(t *testing.T) {
	for _, list := range pairLists() {
		g := guard(list, [2]int{0, 0}, [2]int{1, 2})
		for i := range len(g.list) + 1 {
			for j := range len(g.list) + 1 {
				checkPairLists(t, g.list[:i], g.list[j:])
				checkPairLists(t, g.list[i:], g.list[:j])
				checkPairLists(t, g.list[:i], g.list[:j])
			}
		}
		g.check(t, "MergePairs or SubtractPairs")
	}
}
