package permute_test

import (
	"math"
	"slices"
	"testing"

	"carom/permute"
)

const (
	least    = math.MinInt
	greatest = math.MaxInt
	last     = math.MaxUint64
)

// drawn is what Next answers, chosen is what Intn answers.
type (
	drawn  struct{ number, state uint64 }
	chosen struct {
		number int
		state  uint64
	}
)

// wraps tells which products and sums of Next wrap around: the state's product, the sum and the number's product.
type wraps struct{ product, sum, second bool }

// The states before the next states 0, 2^29 and 2^64 - 1, and those that give the numbers 2^63 - 1, 2^63, 2^64 - 2 and 2^64 - 1.
const (
	beforeZero   = 0x9995b5b621535015
	beforeShift  = 0x7fe97acac1535015
	beforeLast   = 0xd8fdc62eeeb52770
	givesHalf    = 0xe57b3e8b645880dd
	givesNextOne = 0x33312bf56a83c620
	givesLastOne = 0xc8e6b9bbfeafdf7c
	givesLast    = 0xf1f8b6e7d9fbda4a
)

func next(state uint64) drawn {
	number, state := permute.Next(state)
	return drawn{number, state}
}

func intn(n int, state uint64) chosen {
	number, state := permute.Intn(n, state)
	return chosen{number, state}
}

// P6.1
func TestNext(t *testing.T) {
	rows := []struct {
		state uint64
		want  drawn
		wraps wraps
	}{
		{0, drawn{0x5ac7351981502bc1, 0x14057b7ef767814f}, wraps{false, false, true}},
		{1, drawn{0x01bc16e7a81b0481, 0x6c576fac43fd007c}, wraps{false, false, true}},
		{2, drawn{0xb814ab4c3c44923d, 0xc4a963d990927fa9}, wraps{false, false, true}},
		{3, drawn{0x6e097fbe9a7e00de, 0x1cfb5806dd27fed6}, wraps{true, false, true}},
		{42, drawn{0xf803a9dd6c094ed4, 0x91778aed87ee5eb1}, wraps{true, false, true}},
		{77, drawn{0xec5fd8ec35ef104c, 0xa4abed1f005ec1d8}, wraps{true, false, true}},
		{123456789, drawn{0x6b9593bd1f8edd2a, 0xfc7919286680f900}, wraps{true, false, true}},
		{9876543210123456789, drawn{0x8becea17884e9e3f, 0x26b4fb2901f1cd00}, wraps{true, false, true}},
		{1 << 32, drawn{0xadbb54e797f00137, 0x609afaabf767814f}, wraps{true, false, true}},
		{1<<63 - 1, drawn{0x5d6a2ab8a8f5546b, 0x3bb38751aad20222}, wraps{true, false, true}},
		{1 << 63, drawn{0x9d13c0a54684de7d, 0x94057b7ef767814f}, wraps{true, false, true}},
		{last - 1, drawn{0x4fbd4bd73992898c, 0x636193245e3c82f5}, wraps{true, false, true}},
		{last, drawn{0x1b1d9f2cee82e1ff, 0xbbb38751aad20222}, wraps{true, false, true}},
		// The sum just wraps around or just does not.
		{beforeZero, drawn{0, 0}, wraps{true, true, false}},
		{beforeLast, drawn{0x8499171884991718, last}, wraps{true, false, true}},
		{0x3f681078cd61d75b, drawn{0x800d29abab0ed25e, 0x14057b7ef767814e}, wraps{true, true, true}},
		// The product of the number just does not wrap around or just does.
		{0x5a2da53d53f178ba, drawn{0x2545f4916a29298c, 1}, wraps{true, true, false}},
		{0x1d2552e1510843f3, drawn{0xdfa3bb67032e95c9, 6}, wraps{true, true, false}},
		{0xddbd426883a66c98, drawn{0x04e9aff92f13a432, 7}, wraps{true, true, true}},
		// The first shift leaves nothing or one bit.
		{0xbf518b438eb52770, drawn{0x04a7a712543485f1, 1<<29 - 1}, wraps{true, true, true}},
		{beforeShift, drawn{0x4f339034a05f4d29, 1 << 29}, wraps{true, true, true}},
		// The numbers at the ends of the range and about the second shift.
		{0xf0ad2355531c3d1e, drawn{1, 0x59071d9410262195}, wraps{true, false, true}},
		{0x3ecf341bf8dd75ee, drawn{1<<32 - 1, 0x7f17af9ddf5c4e25}, wraps{true, false, true}},
		{0xab6e90153e269178, drawn{1 << 32, 0x3125eaca51319b67}, wraps{true, false, true}},
		{givesHalf, drawn{1<<63 - 1, 0x13f099651f84cb28}, wraps{true, true, true}},
		{givesNextOne, drawn{1 << 63, 0xec0f669de07b34ef}, wraps{true, false, true}},
		{givesLastOne, drawn{last - 1, 0x80e85065df5c4e1b}, wraps{true, false, true}},
		{givesLast, drawn{last, 0x27e132ca3f099651}, wraps{true, false, true}},
	}
	for _, row := range rows {
		if got := next(row.state); got != row.want {
			t.Errorf("Next(%#x) = %#x, want %#x", row.state, got, row.want)
		}
		if want, wraps := wantNext(row.state); want != row.want || wraps != row.wraps {
			t.Errorf("Next(%#x): the oracle says %#x, %v, the row %#x, %v", row.state, want, wraps, row.want, row.wraps)
		}
	}
}

// P6.1
func TestNextOnStates(t *testing.T) {
	for _, state := range states() {
		if want, _ := wantNext(state); next(state) != want {
			t.Fatalf("Next(%#x) = %#x, want %#x", state, next(state), want)
		}
	}
}

// P6.1: a state is passed on from call to call, and nothing else is.
func TestNextInSequence(t *testing.T) {
	state, expected := uint64(9), uint64(9)
	for i := range 5000 {
		permute.Next(uint64(i))
		want, _ := wantNext(expected)
		if got := next(state); got != want {
			t.Fatalf("draw %d: Next(%#x) = %#x, want %#x", i, state, got, want)
		}
		_, state = permute.Next(state)
		expected = want.state
	}
}

// P6.1
func TestIntn(t *testing.T) {
	rows := []struct {
		n     int
		state uint64
		want  chosen
	}{
		{1, 0, chosen{0, 0x14057b7ef767814f}},
		{1, 5, chosen{0, 0xcd9f40617652fd30}},
		{1, last, chosen{0, 0xbbb38751aad20222}},
		{2, 0, chosen{1, 0x14057b7ef767814f}},
		{2, 3, chosen{0, 0x1cfb5806dd27fed6}},
		{2, beforeZero, chosen{0, 0}},
		{3, 1, chosen{2, 0x6c576fac43fd007c}},
		{3, 42, chosen{1, 0x91778aed87ee5eb1}},
		{3, last, chosen{0, 0xbbb38751aad20222}},
		{10, 0, chosen{7, 0x14057b7ef767814f}},
		{10, givesLast, chosen{5, 0x27e132ca3f099651}},
		{1000, 0, chosen{257, 0x14057b7ef767814f}},
		{1000, givesNextOne, chosen{808, 0xec0f669de07b34ef}},
		{4096, 42, chosen{3796, 0x91778aed87ee5eb1}},
		{4097, 42, chosen{2306, 0x91778aed87ee5eb1}},
		{1 << 32, 1, chosen{2820342913, 0x6c576fac43fd007c}},
		{1<<32 + 1, givesLastOne, chosen{1 << 32, 0x80e85065df5c4e1b}},
		{1<<32 + 1, givesLast, chosen{0, 0x27e132ca3f099651}},
		{greatest - 1, givesHalf, chosen{1, 0x13f099651f84cb28}},
		{greatest - 1, givesLast, chosen{3, 0x27e132ca3f099651}},
		{greatest, 0, chosen{6541255367438904257, 0x14057b7ef767814f}},
		{greatest, 2, chosen{4041043109575168574, 0xc4a963d990927fa9}},
		{greatest, givesHalf, chosen{0, 0x13f099651f84cb28}},
		{greatest, givesNextOne, chosen{1, 0xec0f669de07b34ef}},
		{greatest, givesLastOne, chosen{0, 0x80e85065df5c4e1b}},
		{greatest, givesLast, chosen{1, 0x27e132ca3f099651}},
		// Nothing is drawn.
		{0, 0, chosen{0, 0}},
		{0, 5, chosen{0, 5}},
		{0, last, chosen{0, last}},
		{-1, 5, chosen{0, 5}},
		{-2, last, chosen{0, last}},
		{-4096, 1, chosen{0, 1}},
		{least + 1, 7, chosen{0, 7}},
		{least, 0, chosen{0, 0}},
		{least, 5, chosen{0, 5}},
	}
	for _, row := range rows {
		if got := intn(row.n, row.state); got != row.want {
			t.Errorf("Intn(%d, %#x) = %#x, want %#x", row.n, row.state, got, row.want)
		}
		if want := wantIntn(row.n, row.state); want != row.want {
			t.Errorf("Intn(%d, %#x): the oracle says %#x, the row %#x", row.n, row.state, want, row.want)
		}
	}
}

// P6.1
func TestIntnOnStates(t *testing.T) {
	numbers := []int{least, -1, 0, 1, 2, 3, 7, 4096, 1<<32 - 1, 1<<62 + 1, greatest - 1, greatest}
	for i, state := range states() {
		for _, n := range append(numbers, i) {
			if got, want := intn(n, state), wantIntn(n, state); got != want {
				t.Fatalf("Intn(%d, %#x) = %#x, want %#x", n, state, got, want)
			}
		}
	}
}

// checkPerm compares Perm with what is wanted.
func checkPerm(t *testing.T, n int, state uint64, order []int, behind uint64) {
	t.Helper()
	if got, after := permute.Perm(n, state); !slices.Equal(got, order) || after != behind {
		t.Errorf("Perm(%d, %#x) = %v, %#x, want %v, %#x", n, state, got, after, order, behind)
	}
}

// P6.2
func TestPerm(t *testing.T) {
	rows := []struct {
		n      int
		state  uint64
		order  []int
		behind uint64
	}{
		// Without an exchange, nothing is drawn.
		{0, 0, nil, 0},
		{0, 9, nil, 9},
		{0, last, nil, last},
		{1, 0, []int{0}, 0},
		{1, 77, []int{0}, 77},
		{1, last, []int{0}, last},
		{2, 0, []int{0, 1}, 0x14057b7ef767814f},
		{2, 3, []int{1, 0}, 0x1cfb5806dd27fed6},
		{2, beforeZero, []int{1, 0}, 0},
		{2, last, []int{0, 1}, 0xbbb38751aad20222},
		{3, 0, []int{0, 1, 2}, 0x1a08ee1184ba6d32},
		{3, 1, []int{1, 0, 2}, 0x826886b3864a1b1b},
		{3, 42, []int{0, 2, 1}, 0x39b7f8a5c64cf56c},
		{3, 77, []int{2, 1, 0}, 0x7ec9d6cbfcf1bc47},
		{3, givesLast, []int{1, 2, 0}, 0x8d0e7c356ce1c8c},
		{4, 0, []int{2, 3, 0, 1}, 0x9af678222e728119},
		{4, last, []int{0, 2, 1, 3}, 0x8ff20eab3c4d5824},
		{5, 1, []int{1, 3, 2, 4, 0}, 0x620355cd119357c5},
		{5, beforeZero, []int{2, 3, 4, 1, 0}, 0x9af678222e728119},
		{8, 2, []int{0, 7, 3, 6, 2, 4, 1, 5}, 0x75cd6f98f9cd6e7},
		{8, last, []int{0, 4, 3, 1, 2, 6, 5, 7}, 0x9ab271abafb62c18},
		{12, 42, []int{2, 10, 1, 3, 8, 7, 11, 0, 5, 6, 9, 4}, 0x5b541b11572aa853},
		// The number of items is out of range.
		{4097, 0, nil, 0},
		{4097, 9, nil, 9},
		{4098, last, nil, last},
		{1 << 32, 9, nil, 9},
		{greatest, 9, nil, 9},
		{-1, 0, nil, 0},
		{-1, 9, nil, 9},
		{-4096, last, nil, last},
		{least + 1, 9, nil, 9},
		{least, 9, nil, 9},
	}
	for _, row := range rows {
		checkPerm(t, row.n, row.state, row.order, row.behind)
		if order, behind := wantPerm(row.n, row.state); !slices.Equal(order, row.order) || behind != row.behind {
			t.Errorf("Perm(%d, %#x): the oracle says %v, %#x, the row %v, %#x", row.n, row.state, order, behind, row.order, row.behind)
		}
	}
}

// P6.2
func TestPermOfEveryLength(t *testing.T) {
	for n := range 101 {
		for _, state := range []uint64{0, 1, 9, beforeZero, givesLast, last, uint64(n) << 40} {
			order, behind := wantPerm(n, state)
			checkPerm(t, n, state, order, behind)
		}
	}
}

// P6.2: the greatest permutations.
func TestPermOfManyItems(t *testing.T) {
	rows := []struct {
		n           int
		first, last []int
		behind      uint64
	}{
		{4095, []int{2469, 774, 919, 408}, []int{930, 1698, 1897, 1366}, 0x30637df2064912bf},
		{4096, []int{2882, 2859, 1709, 1862}, []int{3035, 974, 1661, 337}, 0x6fde61d3efb78de2},
	}
	for _, row := range rows {
		order, behind := permute.Perm(row.n, 9)
		if len(order) != row.n {
			t.Fatalf("Perm(%d, 9) has %d items", row.n, len(order))
		}
		if first, last := order[:4], order[row.n-4:]; !slices.Equal(first, row.first) || !slices.Equal(last, row.last) || behind != row.behind {
			t.Errorf("Perm(%d, 9) = %v .. %v, %#x, want %v .. %v, %#x", row.n, first, last, behind, row.first, row.last, row.behind)
		}
		want, after := wantPerm(row.n, 9)
		checkPerm(t, row.n, 9, want, after)
	}
}

// P6.2: every index is there exactly once.
func TestPermIsPermutation(t *testing.T) {
	for n := range 301 {
		order, _ := permute.Perm(n, uint64(n)*uint64(n))
		if len(order) != n || !wantIsPermutation(order) || !permute.IsPermutation(order) {
			t.Errorf("Perm(%d, %d) = %v", n, n*n, order)
		}
	}
}

// P6.2: each call makes a permutation of its own.
func TestPermKeepsNothing(t *testing.T) {
	first, _ := permute.Perm(20, 9)
	before := slices.Clone(first)
	second, _ := permute.Perm(20, 9)
	if !slices.Equal(first, second) {
		t.Errorf("Perm(20, 9) = %v, then %v", first, second)
	}
	clear(second)
	third, _ := permute.Perm(20, 9)
	if !slices.Equal(first, before) || !slices.Equal(third, before) {
		t.Errorf("a change of one permutation makes others %v and %v", first, third)
	}
}

// P6.3
func TestIsPermutation(t *testing.T) {
	rows := []struct {
		order []int
		want  bool
	}{
		{nil, true},
		{[]int{}, true},
		{[]int{0}, true},
		{[]int{0, 1}, true},
		{[]int{1, 0}, true},
		{[]int{2, 0, 1}, true},
		{[]int{3, 1, 0, 2}, true},
		{[]int{9, 8, 7, 6, 5, 4, 3, 2, 1, 0}, true},
		// A number is repeated.
		{[]int{0, 0}, false},
		{[]int{1, 1}, false},
		{[]int{0, 1, 0}, false},
		{[]int{2, 1, 2}, false},
		{[]int{1, 1, 1}, false},
		{[]int{0, 1, 3, 3}, false},
		// A number is negative.
		{[]int{-1}, false},
		{[]int{-1, 0}, false},
		{[]int{0, -1}, false},
		{[]int{1, -1, 0}, false},
		{[]int{least, 0}, false},
		{[]int{0, 1, least}, false},
		// A number is too large.
		{[]int{1}, false},
		{[]int{0, 2}, false},
		{[]int{1, 2}, false},
		{[]int{3, 0, 1}, false},
		{[]int{0, 1, 2, 4}, false},
		{[]int{greatest}, false},
		{[]int{1, 0, greatest}, false},
		{[]int{least, greatest}, false},
	}
	for _, row := range rows {
		if got := permute.IsPermutation(row.order); got != row.want {
			t.Errorf("IsPermutation(%v) = %v", row.order, got)
		}
		if wantIsPermutation(row.order) != row.want {
			t.Errorf("IsPermutation(%v): the row says %v, the oracle does not", row.order, row.want)
		}
	}
}

// P6.3
func TestIsPermutationOnLists(t *testing.T) {
	for _, list := range [][][]int{small(numberings, 5), small(permutations, 6), shuffled(), spoiled()} {
		for _, order := range list {
			if got, want := permute.IsPermutation(order), wantIsPermutation(order); got != want {
				t.Fatalf("IsPermutation(%v) = %v", order, got)
			}
		}
	}
}

// P6.3
func TestInverse(t *testing.T) {
	rows := []struct{ order, want []int }{
		{nil, nil},
		{[]int{}, nil},
		{[]int{0}, []int{0}},
		{[]int{0, 1, 2}, []int{0, 1, 2}},
		{[]int{1, 0}, []int{1, 0}},
		{[]int{2, 0, 1}, []int{1, 2, 0}},
		{[]int{1, 2, 0}, []int{2, 0, 1}},
		{[]int{3, 0, 4, 1, 2}, []int{1, 3, 4, 0, 2}},
		// No permutations.
		{[]int{1}, nil},
		{[]int{-1}, nil},
		{[]int{1, 1}, nil},
		{[]int{0, 0, 2}, nil},
		{[]int{0, 1, 3}, nil},
		{[]int{-1, 0, 1}, nil},
		{[]int{0, greatest}, nil},
		{[]int{least, 1}, nil},
	}
	for _, row := range rows {
		if got := permute.Inverse(row.order); !slices.Equal(got, row.want) {
			t.Errorf("Inverse(%v) = %v, want %v", row.order, got, row.want)
		}
	}
	for _, list := range [][][]int{small(numberings, 5), small(permutations, 6), shuffled(), spoiled()} {
		for _, order := range list {
			if got, want := permute.Inverse(order), wantInverse(order); !slices.Equal(got, want) {
				t.Fatalf("Inverse(%v) = %v, want %v", order, got, want)
			}
		}
	}
}

// P6.3
func TestCompose(t *testing.T) {
	rows := []struct{ a, b, want []int }{
		{nil, nil, nil},
		{nil, []int{}, nil},
		{[]int{0}, []int{0}, []int{0}},
		{[]int{1, 0}, []int{1, 0}, []int{0, 1}},
		{[]int{1, 0}, []int{0, 1}, []int{1, 0}},
		{[]int{2, 0, 1}, []int{1, 2, 0}, []int{0, 1, 2}},
		{[]int{2, 0, 1}, []int{2, 0, 1}, []int{1, 2, 0}},
		// The order of a and b matters.
		{[]int{1, 2, 0}, []int{1, 0, 2}, []int{2, 1, 0}},
		{[]int{1, 0, 2}, []int{1, 2, 0}, []int{0, 2, 1}},
		{[]int{3, 0, 1, 2}, []int{0, 2, 1, 3}, []int{3, 1, 0, 2}},
		// The lengths differ.
		{nil, []int{0}, nil},
		{[]int{0}, nil, nil},
		{[]int{0}, []int{1, 0}, nil},
		{[]int{1, 0}, []int{0}, nil},
		{[]int{2, 0, 1}, []int{1, 0}, nil},
		// The first, the second or both are no permutations.
		{[]int{0, 0}, []int{1, 0}, nil},
		{[]int{5, 7}, []int{1, 0}, nil},
		{[]int{-1, 0}, []int{1, 0}, nil},
		{[]int{1}, []int{0}, nil},
		{[]int{1, 0}, []int{0, 0}, nil},
		{[]int{1, 0}, []int{1, 2}, nil},
		{[]int{1, 0}, []int{0, -1}, nil},
		{[]int{1, 0}, []int{least, greatest}, nil},
		{[]int{1, 1}, []int{1, 1}, nil},
		{[]int{-1, 1}, []int{0, 2}, nil},
	}
	for _, row := range rows {
		if got := permute.Compose(row.a, row.b); !slices.Equal(got, row.want) {
			t.Errorf("Compose(%v, %v) = %v, want %v", row.a, row.b, got, row.want)
		}
	}
}

// couples calls visit with couples of slices that are permutations or not, of one length or not.
func couples(visit func(a, b []int)) {
	for _, list := range [][][]int{small(numberings, 3), small(permutations, 4), shuffled()} {
		for _, a := range list {
			for _, b := range list {
				visit(a, b)
			}
		}
	}
	for _, bad := range spoiled() {
		good := wantApply(backward(len(bad)), backward(len(bad)))
		visit(bad, good)
		visit(good, bad)
	}
}

func backward(n int) []int {
	var order []int
	for i := range n {
		order = append(order, n-1-i)
	}
	return order
}

// P6.3
func TestComposeOnCouples(t *testing.T) {
	couples(func(a, b []int) {
		if got, want := permute.Compose(a, b), wantCompose(a, b); !slices.Equal(got, want) {
			t.Fatalf("Compose(%v, %v) = %v, want %v", a, b, got, want)
		}
	})
}

// P6.3: applying a and then b is the same as applying what is composed of them.
func TestComposeIsAppliedAtOnce(t *testing.T) {
	items := []string{"a", "b", "c", "d", "e"}
	for _, a := range permutations(len(items)) {
		for _, b := range permutations(len(items)) {
			one, two := permute.Apply(items, permute.Compose(a, b)), permute.Apply(permute.Apply(items, a), b)
			if len(one) != len(items) || !slices.Equal(one, two) {
				t.Fatalf("%v and %v: %v at once, %v one by one", a, b, one, two)
			}
		}
	}
}

type part struct {
	name  string
	sizes [2]int
}

// checkApply compares what Apply makes of the items with what is wanted.
func checkApply[T comparable](t *testing.T, items []T, order []int, want ...T) {
	t.Helper()
	if got := permute.Apply(items, order); !slices.Equal(got, want) {
		t.Errorf("Apply(%v, %v) = %v, want %v", items, order, got, want)
	}
}

// P6.3
func TestApply(t *testing.T) {
	checkApply(t, []string{"a", "b", "c"}, []int{2, 0, 1}, "c", "a", "b")
	checkApply(t, []string{"a", "b", "c"}, []int{0, 1, 2}, "a", "b", "c")
	checkApply(t, []int{7, -8}, []int{1, 0}, -8, 7)
	checkApply(t, []int{5}, []int{0}, 5)
	checkApply(t, []int{5, 5, 6, 6}, []int{3, 0, 2, 1}, 6, 5, 6, 5)
	checkApply(t, []byte("carom"), []int{4, 3, 2, 1, 0}, []byte("morac")...)
	checkApply(t, []bool{true, false, false}, []int{1, 2, 0}, false, false, true)
	checkApply(t, []float64{0.5, 1.5}, []int{1, 0}, 1.5, 0.5)
	checkApply(t, []struct{}{{}, {}}, []int{1, 0}, struct{}{}, struct{}{})
	checkApply(t, []any{1, "b", nil}, []int{2, 0, 1}, nil, any(1), any("b"))
	one, two := part{"one", [2]int{1, 2}}, part{"two", [2]int{3, 4}}
	checkApply(t, []part{one, two}, []int{1, 0}, two, one)
	checkApply(t, []*part{&one, nil, &two}, []int{2, 0, 1}, &two, &one, nil)
	checkApply(t, [][2]int{{1, 2}, {3, 4}}, []int{1, 0}, [2]int{3, 4}, [2]int{1, 2})
}

// P6.3: items that cannot be compared can be permuted, too.
func TestApplyOfAnyType(t *testing.T) {
	lists := permute.Apply([][]int{{1}, {2, 3}, nil}, []int{1, 2, 0})
	if len(lists) != 3 || !slices.Equal(lists[0], []int{2, 3}) || lists[1] != nil || !slices.Equal(lists[2], []int{1}) {
		t.Errorf("Apply = %v", lists)
	}
	calls := permute.Apply([]func() int{func() int { return 1 }, func() int { return 2 }}, []int{1, 0})
	if len(calls) != 2 || calls[0]() != 2 || calls[1]() != 1 {
		t.Error("the functions are not exchanged")
	}
}

// P6.3
func TestApplyOfNothing(t *testing.T) {
	checkApply(t, []string(nil), nil)
	checkApply(t, []string{}, []int{})
	checkApply(t, []int(nil), []int{})
	// The lengths differ.
	checkApply(t, []int{5}, nil)
	checkApply[int](t, nil, []int{0})
	checkApply(t, []int{5}, []int{0, 1})
	checkApply(t, []int{5, 6}, []int{0})
	checkApply(t, []string{"a", "b", "c"}, []int{1, 0})
	checkApply(t, []string{"a", "b", "c"}, []int{3, 2, 1, 0})
	// The order is no permutation.
	checkApply(t, []int{5}, []int{1})
	checkApply(t, []int{5}, []int{-1})
	checkApply(t, []int{5, 6}, []int{0, 0})
	checkApply(t, []int{5, 6}, []int{1, 1})
	checkApply(t, []int{5, 6}, []int{1, 2})
	checkApply(t, []int{5, 6}, []int{-1, 0})
	checkApply(t, []string{"a", "b"}, []int{0, greatest})
	checkApply(t, []string{"a", "b"}, []int{least, 1})
	checkApply(t, []part{{}, {}, {}}, []int{0, 2, 2})
}

// P6.3
func TestApplyOnCouples(t *testing.T) {
	couples(func(a, order []int) {
		var items []part
		for i, number := range a {
			items = append(items, part{sizes: [2]int{i, number}})
		}
		if got, want := permute.Apply(items, order), wantApply(items, order); !slices.Equal(got, want) {
			t.Fatalf("Apply(%v, %v) = %v, want %v", items, order, got, want)
		}
	})
}

// P6.3: the arguments stay as they are, and so does the room behind them; what is done to a result does not reach them.
func TestArgumentsAreLeftAlone(t *testing.T) {
	calls := map[string]func(a, b []int) []int{
		"Inverse": func(a, b []int) []int { return permute.Inverse(a) },
		"Compose": permute.Compose,
		"Apply":   permute.Apply[int],
		"IsPermutation": func(a, b []int) []int {
			permute.IsPermutation(a)
			return nil
		},
	}
	orders := [][]int{{0, 1, 2, 3}, {1, 0, 3, 2}, {3, 0, 1, 2}, {0, 0, 9, -1}}
	for name, call := range calls {
		for _, first := range orders {
			for _, second := range orders {
				a, b := append(slices.Clone(first), 70, 71), append(slices.Clone(second), 80, 81)
				result := call(a[:4], b[:4])
				result = result[:cap(result)]
				for i := range result {
					result[i] = -5
				}
				if !slices.Equal(a, append(slices.Clone(first), 70, 71)) || !slices.Equal(b, append(slices.Clone(second), 80, 81)) {
					t.Errorf("%s of %v and %v leaves %v and %v", name, first, second, a, b)
				}
			}
		}
	}
}

// P6.3: one slice can be both arguments of a call.
func TestBothArgumentsAreOneSlice(t *testing.T) {
	order := []int{2, 0, 3, 1}
	if got := permute.Compose(order, order); !slices.Equal(got, []int{3, 2, 1, 0}) {
		t.Errorf("Compose = %v", got)
	}
	if got := permute.Apply(order, order); !slices.Equal(got, []int{3, 2, 1, 0}) {
		t.Errorf("Apply = %v", got)
	}
	if !slices.Equal(order, []int{2, 0, 3, 1}) {
		t.Errorf("the slice is %v now", order)
	}
}

// P6.3: each call makes a result of its own.
func TestResultsShareNothing(t *testing.T) {
	order := []int{0, 1, 2}
	for name, call := range map[string]func() []int{
		"Inverse": func() []int { return permute.Inverse(order) },
		"Compose": func() []int { return permute.Compose(order, order) },
		"Apply":   func() []int { return permute.Apply(order, order) },
	} {
		first, second := call(), call()
		clear(second)
		if !slices.Equal(first, []int{0, 1, 2}) {
			t.Errorf("%s: the first result is %v now", name, first)
		}
	}
}

// P6.4
func TestInverseRestores(t *testing.T) {
	for _, list := range [][][]int{small(permutations, 6), shuffled()} {
		for _, order := range list {
			var items []part
			for i := range order {
				items = append(items, part{sizes: [2]int{i, -i}})
			}
			inverse := permute.Inverse(order)
			forth, back := permute.Apply(items, order), permute.Apply(items, inverse)
			if got := permute.Apply(forth, inverse); !slices.Equal(got, items) {
				t.Fatalf("%v and then %v make %v", order, inverse, got)
			}
			if got := permute.Apply(back, order); !slices.Equal(got, items) {
				t.Fatalf("%v and then %v make %v", inverse, order, got)
			}
		}
	}
}

// P6.4: what Perm makes can be undone.
func TestPermIsUndone(t *testing.T) {
	for _, n := range []int{0, 1, 2, 3, 10, 100, 4096} {
		order, _ := permute.Perm(n, uint64(n))
		items, _ := permute.Perm(n, 5)
		if got := permute.Apply(permute.Apply(items, order), permute.Inverse(order)); len(got) != n || !slices.Equal(got, items) {
			t.Errorf("Perm(%d, %d) is not undone", n, n)
		}
	}
}

// The examples of chapter 6.
func TestExamples(t *testing.T) {
	for _, state := range states() {
		checkPerm(t, 1, state, []int{0}, state)
	}
	checkApply(t, []string{"a", "b", "c"}, []int{2, 0, 1}, "c", "a", "b")
}
