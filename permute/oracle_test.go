package permute_test

import (
	"math/big"
	"math/rand"
	"slices"
)

// The functions of this file work the promised values out in other ways than the package: numbers with integers of any size, permutations by searching and sorting.

// digits returns the integer that text writes in decimal digits.
func digits(text string) *big.Int {
	x, ok := new(big.Int).SetString(text, 10)
	if !ok {
		panic("not a number: " + text)
	}
	return x
}

// wrapped returns the rest of x when it is divided by 2^64.
func wrapped(x *big.Int) *big.Int {
	return new(big.Int).Mod(x, new(big.Int).Lsh(big.NewInt(1), 64))
}

// mixed returns x XOR (x >> shift).
func mixed(x *big.Int, shift uint) *big.Int {
	return new(big.Int).Xor(x, new(big.Int).Rsh(x, shift))
}

// wantNext also tells whether a product or sum wraps around: factor*state, adding to it, and the factor of the number.
func wantNext(state uint64) (drawn, wraps) {
	product := new(big.Int).Mul(digits("6364136223846793005"), new(big.Int).SetUint64(state))
	sum := new(big.Int).Add(wrapped(product), digits("1442695040888963407"))
	t := wrapped(sum)
	second := new(big.Int).Mul(mixed(t, 29), digits("2685821657736338717"))
	number := mixed(wrapped(second), 32)
	return drawn{number.Uint64(), t.Uint64()}, wraps{product.BitLen() > 64, sum.BitLen() > 64, second.BitLen() > 64}
}

func wantIntn(n int, state uint64) chosen {
	if n <= 0 {
		return chosen{0, state}
	}
	next, _ := wantNext(state)
	rest := new(big.Int).Mod(new(big.Int).SetUint64(next.number), big.NewInt(int64(n)))
	return chosen{int(rest.Int64()), next.state}
}

// wantPerm notes the exchanges and then follows each place back through them, from the last one to the first.
func wantPerm(n int, state uint64) ([]int, uint64) {
	if n < 0 || n > 4096 {
		return nil, state
	}
	var others []int
	for count := n; count >= 2; count-- {
		choice := wantIntn(count, state)
		others, state = append(others, choice.number), choice.state
	}
	var order []int
	for place := range n {
		item := place
		for step, other := range slices.Backward(others) {
			switch item {
			case n - 1 - step:
				item = other
			case other:
				item = n - 1 - step
			}
		}
		order = append(order, item)
	}
	return order, state
}

func wantIsPermutation(order []int) bool {
	for i, item := range slices.Sorted(slices.Values(order)) {
		if i != item {
			return false
		}
	}
	return true
}

func wantInverse(order []int) []int {
	if !wantIsPermutation(order) {
		return nil
	}
	var inverse []int
	for item := range len(order) {
		inverse = append(inverse, slices.Index(order, item))
	}
	return inverse
}

func wantApply[T any](items []T, order []int) []T {
	if len(items) != len(order) || !wantIsPermutation(order) {
		return nil
	}
	var applied []T
	for _, item := range order {
		applied = append(applied, items[item])
	}
	return applied
}

func wantCompose(a, b []int) []int {
	if !wantIsPermutation(a) {
		return nil
	}
	return wantApply(a, b)
}

// states are the ends of the range, powers of two and random states.
func states() []uint64 {
	list := []uint64{0, 1, 2, 3, 1<<64 - 2, 1<<64 - 1}
	for shift := range 64 {
		list = append(list, 1<<shift-1, 1<<shift, 1<<shift+1)
	}
	source := rand.New(rand.NewSource(1))
	for range 20000 {
		list = append(list, source.Uint64())
	}
	return list
}

// permutations returns all permutations of n items.
func permutations(n int) [][]int {
	if n == 0 {
		return [][]int{{}}
	}
	var list [][]int
	for _, shorter := range permutations(n - 1) {
		for place := range n {
			list = append(list, slices.Insert(slices.Clone(shorter), place, n-1))
		}
	}
	return list
}

// numberings returns all slices of n numbers from -1 to n.
func numberings(n int) [][]int {
	list := [][]int{{}}
	for range n {
		var longer [][]int
		for _, order := range list {
			for number := -1; number <= n; number++ {
				longer = append(longer, append(slices.Clone(order), number))
			}
		}
		list = longer
	}
	return list
}

// shuffled returns permutations of several lengths, some of them longer than those that Perm makes.
func shuffled() [][]int {
	source := rand.New(rand.NewSource(2))
	var list [][]int
	for _, n := range []int{6, 7, 8, 31, 32, 33, 63, 64, 65, 200, 1000, 4096, 4097, 5000} {
		list = append(list, source.Perm(n))
	}
	return list
}

// spoiled returns slices that are no permutations, each by a single number at its beginning, middle or end.
func spoiled() [][]int {
	var list [][]int
	for _, order := range shuffled() {
		n := len(order)
		for _, place := range []int{0, n / 2, n - 1} {
			for _, number := range []int{least, -n, -1, n, n + 1, greatest, order[(place+1)%n]} {
				bad := slices.Clone(order)
				bad[place] = number
				list = append(list, bad)
			}
		}
	}
	return list
}

func small(lists func(int) [][]int, longest int) [][]int {
	var list [][]int
	for n := range longest + 1 {
		list = append(list, lists(n)...)
	}
	return list
}
