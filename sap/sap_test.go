package sap_test

import (
	"math"
	"slices"
	"testing"

	"carom/api"
	"carom/sap"
)

const (
	one  = api.One
	most = api.MaxValue
	low  = math.MinInt
	high = math.MaxInt
)

// overlap is what MaxOverlap answers.
type overlap struct{ count, at int }

func box(minX, minY, maxX, maxY int) api.AABB {
	return api.AABB{Min: api.Vec{X: minX, Y: minY}, Max: api.Vec{X: maxX, Y: maxY}}
}

func entry(id, minX, minY, maxX, maxY int) sap.Entry {
	return sap.Entry{ID: id, Bounds: box(minX, minY, maxX, maxY)}
}

// span is an entry with an X interval, whose box has the Y interval of all spans.
func span(id, from, to int) sap.Entry {
	return entry(id, from, 0, to, 1)
}

// invalidBoxes are boxes of each kind that is not valid. Those of one kind that are larger than they may be would overlap all others.
func invalidBoxes() []api.AABB {
	return []api.AABB{
		box(1, 0, 0, 1), box(0, 1, 1, 0), box(9, 9, 3, 3), box(most, 0, -most, 0), box(0, most, 0, -most),
		box(-most-1, 0, 1, 1), box(0, -most-1, 1, 1), box(0, 0, most+1, 1), box(0, 0, 1, most+1),
		box(most+1, 0, most+1, 1), box(0, -most-1, 1, -most-1), box(low, low, high, high), box(high, high, low, low),
		box(-most-1, -most, most, most), box(-most, -most, most, most+1), box(low, 0, 0, 0), box(0, 0, 0, high),
	}
}

// scenery has boxes in many positions to each other.
func scenery() []sap.Entry {
	return []sap.Entry{
		entry(10, 0, 0, 10, 10),
		entry(-4, 10, 0, 20, 10),  // touches 10 at a side
		entry(7, 20, 10, 30, 20),  // touches -4 at a corner
		entry(3, 2, 2, 4, 4),      // within 10
		entry(12, 0, 0, 10, 10),   // equal to 10
		entry(0, 15, 5, 15, 5),    // a point within -4
		entry(-9, 0, 11, 10, 12),  // misses 10 by one unit
		entry(25, 40, -50, 40, 9), // a line
		entry(high, -30, -30, -20, -20),
		entry(low, most, most, most, most),
		entry(3, -most, -most, most, most), // its ID is taken
		entry(5, 9, 0, 8, 10),              // invalid
	}
}

// checkEntries compares all that is answered for a list of entries with plain searches.
func checkEntries(t *testing.T, entries []sap.Entry) {
	t.Helper()
	if got, want := sap.Sort(entries), sortOf(entries); !slices.Equal(got, want) {
		t.Fatalf("Sort(%v) = %v, want %v", entries, got, want)
	}
	if got, want := sap.Pairs(entries), pairsOf(entries); !slices.Equal(got, want) {
		t.Fatalf("Pairs(%v) = %v, want %v", entries, got, want)
	}
	if got, want := maxOverlap(entries), maxOverlapOf(entries); got != want {
		t.Fatalf("MaxOverlap(%v) = %v, want %v", entries, got, want)
	}
}

func maxOverlap(entries []sap.Entry) overlap {
	count, at := sap.MaxOverlap(entries)
	return overlap{count, at}
}

// checkPairLists compares both functions of lists of pairs with plain searches.
func checkPairLists(t *testing.T, a, b [][2]int) {
	t.Helper()
	if got, want := sap.MergePairs(a, b), mergeOf(a, b); !slices.Equal(got, want) {
		t.Fatalf("MergePairs(%v, %v) = %v, want %v", a, b, got, want)
	}
	if got, want := sap.SubtractPairs(a, b), subtractOf(a, b); !slices.Equal(got, want) {
		t.Fatalf("SubtractPairs(%v, %v) = %v, want %v", a, b, got, want)
	}
}

// P21.1
func TestSort(t *testing.T) {
	for _, r := range []struct{ entries, want []sap.Entry }{
		{nil, nil},
		{[]sap.Entry{}, nil},
		{[]sap.Entry{span(5, -3, 4)}, []sap.Entry{span(5, -3, 4)}},
		// The zero entry has a valid box, the origin.
		{[]sap.Entry{{}}, []sap.Entry{{}}},
		// Sorted already, in reverse, mixed.
		{[]sap.Entry{span(1, -5, 9), span(2, 0, 1), span(3, 7, 8)}, []sap.Entry{span(1, -5, 9), span(2, 0, 1), span(3, 7, 8)}},
		{[]sap.Entry{span(1, 7, 9), span(2, 0, 1), span(3, -5, 8)}, []sap.Entry{span(3, -5, 8), span(2, 0, 1), span(1, 7, 9)}},
		{[]sap.Entry{span(4, 2, 3), span(2, 9, 9), span(9, -1, 6), span(0, 3, 3)}, []sap.Entry{span(9, -1, 6), span(4, 2, 3), span(0, 3, 3), span(2, 9, 9)}},
		// Neither Max.X nor Y matters.
		{[]sap.Entry{entry(1, 2, -9, 3, -8), entry(2, 1, 5, 30, 6), entry(3, 0, -20, 99, 7)}, []sap.Entry{entry(3, 0, -20, 99, 7), entry(2, 1, 5, 30, 6), entry(1, 2, -9, 3, -8)}},
		// Where Min.X is equal, the IDs do.
		{[]sap.Entry{span(9, 4, 5), span(-2, 4, 7), span(3, 4, 4), span(-20, 4, 6), span(0, 4, 4)}, []sap.Entry{span(-20, 4, 6), span(-2, 4, 7), span(0, 4, 4), span(3, 4, 4), span(9, 4, 5)}},
		{[]sap.Entry{span(high, 0, 1), span(0, 0, 1), span(low, 0, 1), span(1, 0, 1), span(-1, 0, 1)}, []sap.Entry{span(low, 0, 1), span(-1, 0, 1), span(0, 0, 1), span(1, 0, 1), span(high, 0, 1)}},
		{[]sap.Entry{span(low, 0, 1), span(high, -1, 1), span(high-1, -1, 1), span(low+1, 0, 1)}, []sap.Entry{span(high-1, -1, 1), span(high, -1, 1), span(low, 0, 1), span(low+1, 0, 1)}},
		// The ends of the saturated range.
		{
			[]sap.Entry{entry(1, most, most, most, most), entry(2, -most, -most, most, most), entry(3, most-1, 0, most, 0), entry(4, -most, -most, -most, -most), entry(5, -most+1, 0, 0, 0)},
			[]sap.Entry{entry(2, -most, -most, most, most), entry(4, -most, -most, -most, -most), entry(5, -most+1, 0, 0, 0), entry(3, most-1, 0, most, 0), entry(1, most, most, most, most)},
		},
	} {
		if got := sap.Sort(r.entries); !slices.Equal(got, r.want) {
			t.Errorf("Sort(%v) = %v, want %v", r.entries, got, r.want)
		}
		checkEntries(t, r.entries)
	}
}

// P21.1, P21.2: entries with invalid boxes are ignored, each kind by itself, beside valid boxes and beside each other.
func TestInvalidBoxes(t *testing.T) {
	valid := []sap.Entry{span(4, 0, 2), span(1, 1, 3)}
	var all []sap.Entry
	for i, bounds := range invalidBoxes() {
		invalid := sap.Entry{ID: i - 3, Bounds: bounds}
		all = append(all, invalid)
		if got := sap.Sort([]sap.Entry{invalid}); len(got) != 0 {
			t.Errorf("Sort of the box %v = %v", bounds, got)
		}
		if got := maxOverlap([]sap.Entry{invalid}); got != (overlap{}) {
			t.Errorf("MaxOverlap of the box %v = %v", bounds, got)
		}
		for place := range 3 {
			entries := slices.Insert(slices.Clone(valid), place, sap.Entry{ID: 50, Bounds: bounds})
			if got := sap.Sort(entries); !slices.Equal(got, valid) {
				t.Errorf("Sort(%v) = %v", entries, got)
			}
			if got := sap.Pairs(entries); !slices.Equal(got, [][2]int{{1, 4}}) {
				t.Errorf("Pairs(%v) = %v", entries, got)
			}
			if got := maxOverlap(entries); got != (overlap{2, 1}) {
				t.Errorf("MaxOverlap(%v) = %v", entries, got)
			}
		}
	}
	for count := range all {
		if got := sap.Sort(all[:count+1]); len(got) != 0 {
			t.Errorf("Sort(%v) = %v", all[:count+1], got)
		}
		if got := sap.Pairs(all[:count+1]); len(got) != 0 {
			t.Errorf("Pairs(%v) = %v", all[:count+1], got)
		}
		if got := maxOverlap(all[:count+1]); got != (overlap{}) {
			t.Errorf("MaxOverlap(%v) = %v", all[:count+1], got)
		}
	}
}

// P21.1, P21.2: among several entries with one ID, the first with a valid box counts.
func TestIDsThatComeSeveralTimes(t *testing.T) {
	invalid := entry(7, 5, 0, 4, 9)
	for _, r := range []struct {
		entries, sorted []sap.Entry
		pairs           [][2]int
		most            overlap
	}{
		{[]sap.Entry{span(7, 3, 4), span(7, 0, 9)}, []sap.Entry{span(7, 3, 4)}, nil, overlap{1, 3}},
		{[]sap.Entry{span(7, 0, 9), span(7, 3, 4)}, []sap.Entry{span(7, 0, 9)}, nil, overlap{1, 0}},
		{[]sap.Entry{span(7, 0, 9), span(7, 0, 9), span(7, 0, 9)}, []sap.Entry{span(7, 0, 9)}, nil, overlap{1, 0}},
		// An earlier one with an invalid box takes no ID.
		{[]sap.Entry{invalid, span(7, 3, 4)}, []sap.Entry{span(7, 3, 4)}, nil, overlap{1, 3}},
		{[]sap.Entry{invalid, span(7, 3, 4), span(7, 0, 1)}, []sap.Entry{span(7, 3, 4)}, nil, overlap{1, 3}},
		{[]sap.Entry{invalid, invalid, span(7, 3, 4), invalid, span(7, 0, 1)}, []sap.Entry{span(7, 3, 4)}, nil, overlap{1, 3}},
		{[]sap.Entry{span(7, 3, 4), invalid, span(7, 0, 1)}, []sap.Entry{span(7, 3, 4)}, nil, overlap{1, 3}},
		// Beside others: the later box would have another pair, or none.
		{[]sap.Entry{span(7, 3, 4), span(2, 4, 5), span(7, 6, 8), span(1, 8, 9)}, []sap.Entry{span(7, 3, 4), span(2, 4, 5), span(1, 8, 9)}, [][2]int{{2, 7}}, overlap{2, 4}},
		{[]sap.Entry{span(7, 6, 8), span(2, 4, 5), span(7, 3, 4), span(1, 8, 9)}, []sap.Entry{span(2, 4, 5), span(7, 6, 8), span(1, 8, 9)}, [][2]int{{1, 7}}, overlap{2, 8}},
		{[]sap.Entry{invalid, span(2, 4, 5), span(7, 0, 1), span(7, 4, 5), span(2, 1, 1)}, []sap.Entry{span(7, 0, 1), span(2, 4, 5)}, nil, overlap{1, 0}},
		{[]sap.Entry{span(high, 0, 1), span(low, 1, 2), span(high, 5, 6), span(low, -5, 9)}, []sap.Entry{span(high, 0, 1), span(low, 1, 2)}, [][2]int{{low, high}}, overlap{2, 1}},
		{[]sap.Entry{{}, span(0, 1, 2)}, []sap.Entry{{}}, nil, overlap{1, 0}},
	} {
		if got := sap.Sort(r.entries); !slices.Equal(got, r.sorted) {
			t.Errorf("Sort(%v) = %v, want %v", r.entries, got, r.sorted)
		}
		if got := sap.Pairs(r.entries); !slices.Equal(got, r.pairs) {
			t.Errorf("Pairs(%v) = %v, want %v", r.entries, got, r.pairs)
		}
		if got := maxOverlap(r.entries); got != r.most {
			t.Errorf("MaxOverlap(%v) = %v, want %v", r.entries, got, r.most)
		}
		checkEntries(t, r.entries)
	}
}

// P21.1: two boxes in each position to each other, whichever of them comes first and has the smaller ID.
func TestPairsOfTwo(t *testing.T) {
	for _, r := range []struct {
		a, b api.AABB
		want bool
	}{
		{box(0, 0, 10, 10), box(5, 5, 15, 15), true},
		{box(0, 0, 10, 10), box(0, 0, 10, 10), true},
		{box(0, 0, 10, 10), box(3, 4, 5, 6), true},
		{box(0, 0, 10, 10), box(0, 0, 5, 5), true},
		{box(4, 0, 6, 10), box(0, 4, 10, 6), true}, // a cross
		// Common sides and corners, and past them by one in one direction alone.
		{box(0, 0, 10, 10), box(10, 0, 20, 10), true},
		{box(0, 0, 10, 10), box(11, 0, 20, 10), false},
		{box(0, 0, 10, 10), box(0, 10, 10, 20), true},
		{box(0, 0, 10, 10), box(0, 11, 10, 20), false},
		{box(0, 0, 10, 10), box(10, 10, 20, 20), true},
		{box(0, 0, 10, 10), box(11, 10, 20, 20), false},
		{box(0, 0, 10, 10), box(10, 11, 20, 20), false},
		{box(0, 0, 10, 10), box(10, -20, 20, 0), true},
		{box(0, 0, 10, 10), box(11, -20, 20, 0), false},
		{box(0, 0, 10, 10), box(10, -20, 20, -1), false},
		{box(0, 0, 10, 10), box(3, 11, 5, 12), false},
		{box(0, 0, 10, 10), box(3, -5, 5, -1), false},
		{box(0, 0, 10, 10), box(100, 100, 110, 110), false},
		// Points and lines.
		{box(3, 3, 3, 3), box(3, 3, 3, 3), true},
		{box(3, 3, 3, 3), box(4, 3, 4, 3), false},
		{box(3, 3, 3, 3), box(3, 4, 3, 4), false},
		{box(0, 0, 10, 10), box(10, 10, 10, 10), true},
		{box(0, 0, 10, 10), box(0, 10, 0, 10), true},
		{box(0, 0, 10, 10), box(5, 5, 5, 5), true},
		{box(0, 0, 10, 10), box(11, 10, 11, 10), false},
		{box(0, 0, 10, 10), box(5, 11, 5, 11), false},
		{box(5, -10, 5, 10), box(0, 0, 10, 0), true},
		{box(5, -10, 5, 10), box(0, 11, 10, 11), false},
		// The ends of the saturated range, and invalid boxes.
		{box(-most, -most, most, most), box(most, most, most, most), true},
		{box(-most, -most, most, most), box(-most, most, -most, most), true},
		{box(-most, -most, most-1, most), box(most, most, most, most), false},
		{box(-most, -most, most, most-1), box(most, most, most, most), false},
		{box(-most, 0, -most, 0), box(most, 0, most, 0), false},
		{box(0, 0, 10, 10), box(5, 5, 4, 6), false},
		{box(0, 0, 10, 10), box(5, 6, 6, 5), false},
		{box(0, 0, 10, 10), box(5, 5, most+1, 6), false},
		{box(0, 0, 10, 10), box(5, -most-1, 6, 6), false},
	} {
		for _, ids := range [][2]int{{1, 2}, {2, 1}, {-2, -1}, {-1, -2}, {-1, 0}, {3, -3}, {low, high}, {high, low}} {
			a, b := sap.Entry{ID: ids[0], Bounds: r.a}, sap.Entry{ID: ids[1], Bounds: r.b}
			var want [][2]int
			if r.want {
				want = append(want, [2]int{min(ids[0], ids[1]), max(ids[0], ids[1])})
			}
			for _, entries := range [][]sap.Entry{{a, b}, {b, a}} {
				if got := sap.Pairs(entries); !slices.Equal(got, want) {
					t.Errorf("Pairs(%v) = %v, want %v", entries, got, want)
				}
				checkEntries(t, entries)
			}
		}
	}
}

// P21.1
func TestPairs(t *testing.T) {
	for _, r := range []struct {
		entries []sap.Entry
		want    [][2]int
	}{
		{nil, nil},
		{[]sap.Entry{}, nil},
		{[]sap.Entry{entry(1, -most, -most, most, most)}, nil},
		// None, some and all of them.
		{[]sap.Entry{span(4, 0, 1), span(2, 2, 3), span(1, 6, 9), span(8, 4, 5)}, nil},
		{[]sap.Entry{span(0, 0, 1), span(1, 1, 2), span(2, 2, 3), span(3, 3, 4)}, [][2]int{{0, 1}, {1, 2}, {2, 3}}},
		{[]sap.Entry{span(3, 0, 1), span(1, 1, 2), span(0, 2, 3), span(2, 3, 4)}, [][2]int{{0, 1}, {0, 2}, {1, 3}}},
		{[]sap.Entry{span(3, 0, 9), span(1, 1, 8), span(0, 2, 7), span(2, 3, 6)}, [][2]int{{0, 1}, {0, 2}, {0, 3}, {1, 2}, {1, 3}, {2, 3}}},
		{[]sap.Entry{span(-1, 0, 9), span(low, 0, 9), span(high, 0, 9), span(-7, 0, 9), span(0, 0, 9)}, [][2]int{
			{low, -7}, {low, -1}, {low, 0}, {low, high}, {-7, -1}, {-7, 0}, {-7, high}, {-1, 0}, {-1, high}, {0, high},
		}},
		// A long interval that covers many short ones.
		{[]sap.Entry{span(5, -100, 100), span(9, 0, 1), span(2, 10, 11), span(7, -50, -40), span(-3, 60, 100), span(1, 101, 102)}, [][2]int{{-3, 5}, {2, 5}, {5, 7}, {5, 9}}},
		{[]sap.Entry{span(9, 0, 1), span(2, 10, 11), span(5, 0, 100), span(7, 50, 51), span(6, 200, 201), span(4, 100, 100)}, [][2]int{{2, 5}, {4, 5}, {5, 7}, {5, 9}}},
		// A box that is apart in Y, or ends early, does not hide those after it.
		{[]sap.Entry{entry(1, 0, 0, 10, 1), entry(2, 1, 5, 2, 6), entry(3, 3, 0, 4, 1)}, [][2]int{{1, 3}}},
		{[]sap.Entry{entry(1, 0, 0, 10, 1), entry(2, 1, 5, 10, 6), entry(3, 10, 1, 14, 5)}, [][2]int{{1, 3}, {2, 3}}},
		{[]sap.Entry{entry(1, 0, 0, 3, 1), entry(2, 1, 0, 10, 1), entry(3, 4, 0, 5, 1), entry(4, 6, 0, 10, 1)}, [][2]int{{1, 2}, {2, 3}, {2, 4}}},
		{scenery(), [][2]int{{-4, 0}, {-4, 7}, {-4, 10}, {-4, 12}, {3, 10}, {3, 12}, {10, 12}}},
	} {
		if got := sap.Pairs(r.entries); !slices.Equal(got, r.want) {
			t.Errorf("Pairs(%v) = %v, want %v", r.entries, got, r.want)
		}
		checkEntries(t, r.entries)
	}
}

// P21.1: all of many boxes overlap.
func TestPairsOfManyBoxes(t *testing.T) {
	count := 400
	var entries []sap.Entry
	for i := range count {
		entries = append(entries, entry(i*37%count-200, -i, -count+i, i, count))
	}
	pairs := sap.Pairs(entries)
	for a := range count {
		for b := a + 1; b < count; b++ {
			if len(pairs) == 0 || pairs[0] != [2]int{a - 200, b - 200} {
				t.Fatalf("instead of the pair %d, %d there are the pairs %v", a-200, b-200, pairs[:min(len(pairs), 3)])
			}
			pairs = pairs[1:]
		}
	}
	if len(pairs) > 0 {
		t.Errorf("there are %d pairs too many", len(pairs))
	}
	if got := maxOverlap(entries); got != (overlap{count, 0}) {
		t.Errorf("MaxOverlap = %v", got)
	}
}

// P21.2
func TestMaxOverlap(t *testing.T) {
	for _, r := range []struct {
		entries []sap.Entry
		want    overlap
	}{
		{nil, overlap{}},
		{[]sap.Entry{}, overlap{}},
		{[]sap.Entry{{}}, overlap{1, 0}},
		{[]sap.Entry{span(1, 5, 9)}, overlap{1, 5}},
		{[]sap.Entry{span(1, -9, 5)}, overlap{1, -9}},
		{[]sap.Entry{span(1, -9, -5)}, overlap{1, -9}},
		{[]sap.Entry{span(1, 4, 4)}, overlap{1, 4}},
		{[]sap.Entry{span(1, -most, most)}, overlap{1, -most}},
		{[]sap.Entry{span(1, most, most)}, overlap{1, most}},
		// They touch, or miss by one unit.
		{[]sap.Entry{span(1, 0, 5), span(2, 5, 9)}, overlap{2, 5}},
		{[]sap.Entry{span(1, 0, 5), span(2, 6, 9)}, overlap{1, 0}},
		{[]sap.Entry{span(1, -9, -5), span(2, -5, 9)}, overlap{2, -5}},
		{[]sap.Entry{span(1, -9, -5), span(2, -4, 9)}, overlap{1, -9}},
		{[]sap.Entry{span(1, 0, 5), span(2, 5, 9), span(3, 5, 5), span(4, 4, 4)}, overlap{3, 5}},
		{[]sap.Entry{span(1, -most, 0), span(2, 0, most), span(3, most, most)}, overlap{2, 0}},
		{[]sap.Entry{span(1, -most, -1), span(2, 0, most-1), span(3, most, most)}, overlap{1, -most}},
		{[]sap.Entry{span(1, -most, -1), span(2, 0, most), span(3, most, most)}, overlap{2, most}},
		// Nested, equal, and points.
		{[]sap.Entry{span(1, 0, 9), span(2, 3, 5), span(3, 1, 8), span(4, 4, 4)}, overlap{4, 4}},
		{[]sap.Entry{span(1, 2, 9), span(2, 2, 9), span(3, 2, 9)}, overlap{3, 2}},
		{[]sap.Entry{span(1, 2, 2), span(2, 2, 2), span(3, 3, 3)}, overlap{2, 2}},
		{[]sap.Entry{span(1, 3, 3), span(2, 2, 2), span(3, 3, 3)}, overlap{2, 3}},
		{[]sap.Entry{span(1, 1, 1), span(2, 2, 2), span(3, 3, 3)}, overlap{1, 1}},
		{[]sap.Entry{span(1, 2, 3), span(2, 2, 9), span(3, 2, 2), span(4, 0, 1)}, overlap{3, 2}},
		// Several places with the same number: the smallest coordinate, whatever the order is.
		{[]sap.Entry{span(1, 10, 12), span(2, 11, 13), span(3, 0, 2), span(4, 1, 3)}, overlap{2, 1}},
		{[]sap.Entry{span(1, 0, 2), span(2, 1, 3), span(3, 10, 12), span(4, 11, 13)}, overlap{2, 1}},
		{[]sap.Entry{span(4, 0, 9), span(3, 8, 9), span(2, 4, 5), span(1, 1, 2)}, overlap{2, 1}},
		{[]sap.Entry{span(1, -20, -10), span(2, -15, -5), span(3, 5, 20), span(4, 10, 15)}, overlap{2, -15}},
		// More at a later place.
		{[]sap.Entry{span(1, 0, 2), span(2, 1, 3), span(3, 10, 12), span(4, 11, 13), span(5, 12, 12)}, overlap{3, 12}},
		{[]sap.Entry{span(1, -9, 9), span(2, -8, -7), span(3, -6, -5), span(4, 0, 3), span(5, 2, 8)}, overlap{3, 2}},
		// The Y intervals do not matter.
		{[]sap.Entry{entry(1, 0, 0, 5, 1), entry(2, 4, 100, 9, 101), entry(3, 5, -100, 5, -90)}, overlap{3, 5}},
		// IDs that come several times, and invalid boxes.
		{[]sap.Entry{span(1, 0, 5), span(1, 0, 5), span(1, 0, 5), span(2, 9, 9)}, overlap{1, 0}},
		{[]sap.Entry{span(1, 3, 5), span(2, 4, 6), span(2, 3, 3), span(1, 4, 4)}, overlap{2, 4}},
		{[]sap.Entry{span(1, 5, 3), span(2, 4, 6), span(1, 6, 7)}, overlap{2, 6}},
		{[]sap.Entry{span(1, 5, 3), entry(2, 4, 1, 6, 0)}, overlap{}},
		{scenery(), overlap{4, 2}},
	} {
		if got := maxOverlap(r.entries); got != r.want {
			t.Errorf("MaxOverlap(%v) = %v, want %v", r.entries, got, r.want)
		}
		checkEntries(t, r.entries)
	}
}

// P21.2
func TestMergePairs(t *testing.T) {
	for _, r := range []struct{ a, b, want [][2]int }{
		{nil, nil, nil},
		{nil, [][2]int{}, nil},
		{[][2]int{}, [][2]int{}, nil},
		{[][2]int{{1, 2}}, nil, [][2]int{{1, 2}}},
		{[][2]int{{1, 2}}, [][2]int{{1, 2}}, [][2]int{{1, 2}}},
		// Unsorted, with duplicates within one list and in both.
		{[][2]int{{3, 4}, {1, 9}, {1, 2}, {-5, 0}}, nil, [][2]int{{-5, 0}, {1, 2}, {1, 9}, {3, 4}}},
		{[][2]int{{1, 2}, {3, 4}, {1, 2}, {1, 2}}, [][2]int{}, [][2]int{{1, 2}, {3, 4}}},
		{[][2]int{{5, 6}, {1, 2}}, [][2]int{{3, 4}, {0, 9}}, [][2]int{{0, 9}, {1, 2}, {3, 4}, {5, 6}}},
		{[][2]int{{2, 3}, {1, 2}, {2, 3}}, [][2]int{{1, 5}, {1, 2}, {1, 5}}, [][2]int{{1, 2}, {1, 5}, {2, 3}}},
		{[][2]int{{1, 2}, {3, 4}}, [][2]int{{3, 4}, {1, 2}}, [][2]int{{1, 2}, {3, 4}}},
		// Pairs are taken as they are.
		{[][2]int{{2, 1}, {1, 2}}, [][2]int{{1, 1}, {2, 2}, {2, 1}}, [][2]int{{1, 1}, {1, 2}, {2, 1}, {2, 2}}},
		{[][2]int{{7, -7}, {0, 0}}, [][2]int{{-7, 7}, {0, 0}}, [][2]int{{-7, 7}, {0, 0}, {7, -7}}},
		{[][2]int{{high, low}, {low, high}, {low, low}}, [][2]int{{high, high}, {0, low}, {0, high}}, [][2]int{{low, low}, {low, high}, {0, low}, {0, high}, {high, low}, {high, high}}},
	} {
		for _, lists := range [][2][][2]int{{r.a, r.b}, {r.b, r.a}} {
			if got := sap.MergePairs(lists[0], lists[1]); !slices.Equal(got, r.want) {
				t.Errorf("MergePairs(%v, %v) = %v, want %v", lists[0], lists[1], got, r.want)
			}
			checkPairLists(t, lists[0], lists[1])
		}
	}
}

// P21.2
func TestSubtractPairs(t *testing.T) {
	for _, r := range []struct{ a, b, want [][2]int }{
		{nil, nil, nil},
		{nil, [][2]int{}, nil},
		{[][2]int{}, nil, nil},
		{nil, [][2]int{{1, 2}}, nil},
		{[][2]int{{1, 2}}, nil, [][2]int{{1, 2}}},
		{[][2]int{{1, 2}}, [][2]int{{1, 2}}, nil},
		{[][2]int{{1, 2}}, [][2]int{{1, 3}}, [][2]int{{1, 2}}},
		{[][2]int{{1, 2}}, [][2]int{{0, 2}}, [][2]int{{1, 2}}},
		// Unsorted, with duplicates within one list and in both.
		{[][2]int{{3, 4}, {1, 9}, {1, 2}, {-5, 0}}, nil, [][2]int{{-5, 0}, {1, 2}, {1, 9}, {3, 4}}},
		{[][2]int{{3, 4}, {1, 2}, {3, 4}, {1, 2}}, [][2]int{{9, 9}, {9, 9}}, [][2]int{{1, 2}, {3, 4}}},
		{[][2]int{{3, 4}, {1, 2}, {3, 4}, {1, 2}}, [][2]int{{3, 4}}, [][2]int{{1, 2}}},
		{[][2]int{{3, 4}, {1, 2}}, [][2]int{{9, 9}, {3, 4}, {0, 0}, {3, 4}}, [][2]int{{1, 2}}},
		{[][2]int{{1, 2}, {3, 4}, {5, 6}}, [][2]int{{5, 6}, {1, 2}, {3, 4}}, nil},
		{[][2]int{{8, 9}, {6, 7}, {4, 5}, {2, 3}}, [][2]int{{6, 7}, {2, 3}, {0, 1}}, [][2]int{{4, 5}, {8, 9}}},
		// Pairs are taken as they are.
		{[][2]int{{1, 2}, {2, 1}, {1, 1}}, [][2]int{{2, 1}}, [][2]int{{1, 1}, {1, 2}}},
		{[][2]int{{2, 1}, {1, 2}, {2, 2}}, [][2]int{{1, 2}, {1, 1}}, [][2]int{{2, 1}, {2, 2}}},
		{[][2]int{{0, 0}, {0, 1}, {-1, 0}}, [][2]int{{0, 0}}, [][2]int{{-1, 0}, {0, 1}}},
		{[][2]int{{high, low}, {low, high}, {low, low}, {high, high}}, [][2]int{{high, high}, {low, high}}, [][2]int{{low, low}, {high, low}}},
	} {
		if got := sap.SubtractPairs(r.a, r.b); !slices.Equal(got, r.want) {
			t.Errorf("SubtractPairs(%v, %v) = %v, want %v", r.a, r.b, got, r.want)
		}
		checkPairLists(t, r.a, r.b)
	}
}

// The example of chapter 21.
func TestExample(t *testing.T) {
	entries := []sap.Entry{span(1, 0, 2), span(2, 1, 3), span(3, 4, 5)}
	if got := sap.Pairs(entries); !slices.Equal(got, [][2]int{{1, 2}}) {
		t.Errorf("Pairs(%v) = %v", entries, got)
	}
	entries[1].Bounds.Min.Y, entries[1].Bounds.Max.Y = 2, 3
	if got := sap.Pairs(entries); len(got) != 0 {
		t.Errorf("Pairs(%v) = %v", entries, got)
	}
}
