package checksum_test

import (
	"math"
	"slices"
	"strings"
	"testing"

	"carom/checksum"
)

const (
	least    = math.MinInt
	greatest = math.MaxInt
	last     = math.MaxUint64
)

// P9.1
func TestMix64(t *testing.T) {
	rows := []struct {
		h    uint64
		n    int
		want uint64
	}{
		{0, 0, 0},
		{1, 0, 0x17fb89ee35ed72b0},
		{0, 1, 0x17fb89ee35ed72b0},
		{2, 0, 0xc99d164c588ac9d8},
		{0, 2, 0xc99d164c588ac9d8},
		{1, 1, 0},
		{3, 3, 0},
		{3, 4, 0x390d6da3dcb03a03},
		{1, 5, 0x6a232b4fde07aec7},
		{0, 65536, 0x68a5dbff3dbde69d},
		{1 << 32, 0, 0xce4572944798959e},
		{0, 1 << 32, 0xce4572944798959e},
		{0x0123456789abcdef, 0, 0x5fdbd9a63373ff62},
		{0xfedcba9876543210, 123456789, 0xf5a0a24f43a87c43},
		// Negative numbers.
		{0, -1, 0x1f9b169d0c538fb8},
		{1, -1, 0x161f2bf4f7892be3},
		{last, -1, 0},
		{0, -65536, 0xd35101460d48c2eb},
		{0x0123456789abcdef, -42, 0xb0fbe700396257e6},
		// The greatest hashes.
		{last, 0, 0x1f9b169d0c538fb8},
		{last, 1, 0x161f2bf4f7892be3},
		{last - 1, 0, 0x161f2bf4f7892be3},
		{last - 1, 1, 0x1f9b169d0c538fb8},
		// The least and the greatest numbers.
		{0, least, 0xb32cfecc1967f64c},
		{1, least, 0x64ce8b262c4564ec},
		{1 << 63, least, 0},
		{last, least, 0x6c6e17d713fb85f4},
		{0, least + 1, 0x64ce8b262c4564ec},
		{0, greatest - 1, 0x62f22d29d0e11d17},
		{0, greatest, 0x6c6e17d713fb85f4},
		{1, greatest, 0x62f22d29d0e11d17},
		{1 << 63, greatest, 0x1f9b169d0c538fb8},
		{1<<63 - 1, greatest, 0},
		{last, greatest, 0xb32cfecc1967f64c},
		// The first product is 1, 2^32 - 1, 2^32, 2^63 and 2^64 - 1.
		{0xf1de83e19937733d, 0, 0xd6e8febed11e0850},
		{0xa758ef5b66c88cc3, 0, 0x8f70fedee221f4b9},
		{0x9937733d00000000, 0, 0x3d42fc4a8c4e1fc8},
		{0x8000000000000000, 0, 0xb32cfecc1967f64c},
		{0x0e217c1e66c88cc3, 0, 0x99a60269cd301368},
		// The second product is 1, 2^29 - 1, 2^29, 2^63 and 2^64 - 1.
		{0xca8d566dc73190fe, 0, 1},
		{0xa83069f7b1c6d120, 0, 1<<29 - 1},
		{0x83aafc3fd1782e87, 0, 1<<29 + 1},
		{0x4c9bb99e80000000, 0, 0x8000000400000000},
		{0x9734ac606069043b, 0, 0xfffffff800000000},
		// The greatest results.
		{0x9b89cea99cffc711, 0, last - 1},
		{0xaf053529d3f9f1b8, 0, last},
	}
	for _, row := range rows {
		if got := checksum.Mix64(row.h, row.n); got != row.want {
			t.Errorf("Mix64(%#x, %d) = %#x, want %#x", row.h, row.n, got, row.want)
		}
		if want := wantMix64(row.h, row.n); want != row.want {
			t.Errorf("Mix64(%#x, %d): the oracle says %#x, the row %#x", row.h, row.n, want, row.want)
		}
	}
}

// P9.1
func TestMix64OnNumbers(t *testing.T) {
	for i, h := range hashes() {
		for j, n := range numbers() {
			if (i+j)%3 != 0 {
				continue
			}
			if got, want := checksum.Mix64(h, n), wantMix64(h, n); got != want {
				t.Fatalf("Mix64(%#x, %d) = %#x, want %#x", h, n, got, want)
			}
		}
	}
}

// P9.1
func TestHashInts(t *testing.T) {
	rows := []struct {
		values []int
		want   uint64
	}{
		{nil, 0},
		{[]int{}, 0},
		{[]int{0}, 0x17fb89ee35ed72b0},
		{[]int{1}, 0},
		{[]int{2}, 0xe7d92ae11f257bd8},
		{[]int{5}, 0x6a232b4fde07aec7},
		{[]int{-1}, 0x161f2bf4f7892be3},
		{[]int{least}, 0x64ce8b262c4564ec},
		{[]int{greatest}, 0x62f22d29d0e11d17},
		{[]int{2, 2}, 0xc99d164c588ac9d8},
		{[]int{3, 0, 0}, 0},
		// The number of the values counts.
		{[]int{0, 0}, 0x8af4ffb3dafe1a0e},
		{[]int{0, 0, 0}, 0xc282ef33eca318ed},
		// The order of the values counts.
		{[]int{5, 6}, 0xad1ea4f2d0fca2a2},
		{[]int{6, 5}, 0x36ac7a1dc44921ee},
		{[]int{least, greatest}, 0xb3db01fd0239ec26},
		{[]int{greatest, least}, 0xe69cbf9c3e3b92a4},
		{[]int{-1, 0, 1}, 0x5386ce7cf8a72ab6},
		{[]int{65536, -65536, 1, 2, 3}, 0x759cae300515f036},
		{[]int{1, 2, 3, 4, 5, 6, 7, 8, 9, 10}, 0x46d6ea8b6d95df8c},
	}
	for _, row := range rows {
		if got := checksum.HashInts(row.values...); got != row.want {
			t.Errorf("HashInts(%v) = %#x, want %#x", row.values, got, row.want)
		}
		if want := wantHashInts(row.values...); want != row.want {
			t.Errorf("HashInts(%v): the oracle says %#x, the row %#x", row.values, want, row.want)
		}
	}
}

// P9.1: the values can be given one by one.
func TestHashIntsOneByOne(t *testing.T) {
	for _, row := range []struct{ got, want uint64 }{
		{checksum.HashInts(), 0},
		{checksum.HashInts(5), checksum.Mix64(1, 5)},
		{checksum.HashInts(5, -6), checksum.Mix64(checksum.Mix64(2, 5), -6)},
		{checksum.HashInts(-1, 0, 1), 0x5386ce7cf8a72ab6},
	} {
		if row.got != row.want {
			t.Errorf("got %#x, want %#x", row.got, row.want)
		}
	}
}

// P9.1
func TestHashIntsOnNumbers(t *testing.T) {
	all := numbers()
	for i := range all {
		for length := range min(6, len(all)-i) {
			values := all[i : i+length]
			if got, want := checksum.HashInts(values...), wantHashInts(values...); got != want {
				t.Fatalf("HashInts(%v) = %#x, want %#x", values, got, want)
			}
		}
	}
	for _, length := range []int{255, 256, 257, len(all)} {
		if got, want := checksum.HashInts(all[:length]...), wantHashInts(all[:length]...); got != want {
			t.Errorf("HashInts of %d values = %#x, want %#x", length, got, want)
		}
	}
}

// P9.1: the values are only read, and what is behind them is not read.
func TestHashIntsKeepsValues(t *testing.T) {
	for _, behind := range [][]int{{0, 0}, {4, 5}, {least, greatest}} {
		values := append([]int{1, -2, 300}, behind...)
		before := slices.Clone(values)
		if got, want := checksum.HashInts(values[:3]...), wantHashInts(1, -2, 300); got != want {
			t.Errorf("HashInts before %v = %#x, want %#x", behind, got, want)
		}
		if !slices.Equal(values, before) {
			t.Errorf("the values are %v now", values)
		}
	}
}

// P9.2
func TestCRC32C(t *testing.T) {
	ascending := make([]byte, 256)
	for i := range ascending {
		ascending[i] = byte(i)
	}
	descending := slices.Clone(ascending[:32])
	slices.Reverse(descending)
	rows := []struct {
		bytes string
		want  uint32
	}{
		{"", 0},
		{"123456789", 0xe3069283},
		{"\x00", 0x527d5351},
		{"\x01", 0xa016d052},
		{"\x80", 0xd08b6829},
		{"\xff", 0xff000000},
		{"a", 0xc1d04330},
		{"abc", 0x364b3fb7},
		{"The quick brown fox jumps over the lazy dog", 0x22620404},
		{strings.Repeat("\x00", 4), 0x48674bc7},
		{strings.Repeat("\xff", 4), 0xffffffff},
		{strings.Repeat("\x00", 32), 0x8a9136aa},
		{strings.Repeat("\xff", 32), 0x62a8ab43},
		{string(ascending[:32]), 0x46dd794e},
		{string(descending), 0x113fdb5c},
		{string(ascending), 0x9c44184b},
		{strings.Repeat("a", 65536), 0x4e95ed3f},
	}
	for _, row := range rows {
		b := []byte(row.bytes)
		if got := checksum.CRC32C(b); got != row.want {
			t.Errorf("CRC32C(%.40q) = %#x, want %#x", row.bytes, got, row.want)
		}
		if string(b) != row.bytes {
			t.Errorf("the bytes are %.40q now", b)
		}
		if one, two := wantCRC32C(b), libraryCRC32C(b); one != row.want || two != row.want {
			t.Errorf("CRC32C(%.40q): the oracles say %#x and %#x, the row %#x", row.bytes, one, two, row.want)
		}
	}
}

// P9.2
func TestCRC32COfNothing(t *testing.T) {
	for _, b := range [][]byte{nil, {}, []byte("123456789")[:0]} {
		if got := checksum.CRC32C(b); got != 0 {
			t.Errorf("CRC32C of no byte = %#x", got)
		}
	}
}

// P9.2: every byte alone, and every byte at each of three places.
func TestCRC32COfEveryByte(t *testing.T) {
	for value := range 256 {
		c := byte(value)
		for _, b := range [][]byte{{c}, {c, 'x', 'y'}, {'x', c, 'y'}, {'x', 'y', c}} {
			if got, want := checksum.CRC32C(b), wantCRC32C(b); got != want {
				t.Errorf("CRC32C(%v) = %#x, want %#x", b, got, want)
			}
		}
	}
}

// P9.2
func TestCRC32COnContents(t *testing.T) {
	for _, b := range contents() {
		got := checksum.CRC32C(b)
		if want := wantCRC32C(b); got != want {
			t.Errorf("CRC32C(%.40q) = %#x, want %#x", b, got, want)
		}
		if want := libraryCRC32C(b); got != want {
			t.Errorf("CRC32C(%.40q) = %#x, the library says %#x", b, got, want)
		}
	}
}

// P9.2
func TestCRC32COfLongBuffers(t *testing.T) {
	for _, length := range []int{65535, 65536, 65537, 1<<20 - 1, 1 << 20, 1<<20 + 1, 5000000} {
		b := make([]byte, length)
		if got, want := checksum.CRC32C(b), libraryCRC32C(b); got != want {
			t.Errorf("CRC32C of %d zeros = %#x, want %#x", length, got, want)
		}
		for i := range b {
			b[i] = byte(i * i >> 3)
		}
		if got, want := checksum.CRC32C(b), libraryCRC32C(b); got != want {
			t.Errorf("CRC32C of %d bytes = %#x, want %#x", length, got, want)
		}
	}
}

// P9.2: the bytes behind the length do not count.
func TestCRC32CEndsAtTheLength(t *testing.T) {
	for _, whole := range []string{"123456789", "123456789\x00\x00", "123456789\xff123456789"} {
		if got := checksum.CRC32C([]byte(whole)[:9]); got != 0xe3069283 {
			t.Errorf("CRC32C of the first bytes of %q = %#x", whole, got)
		}
	}
}

// P9.3: what was mixed can be told from the result, so no two hashes give one result.
func TestMix64IsInjective(t *testing.T) {
	for _, n := range []int{least, least + 1, -1 << 32, -2, -1, 0, 1, 2, 77, 1 << 32, greatest - 1, greatest} {
		from := map[uint64]uint64{}
		for _, h := range hashes() {
			mix := checksum.Mix64(h, n)
			if got := unmixed(mix, n); got != h {
				t.Fatalf("Mix64(%#x, %d) = %#x, into which %#x is mixed", h, n, mix, got)
			}
			if other, ok := from[mix]; ok && other != h {
				t.Fatalf("Mix64(%#x, %d) and Mix64(%#x, %d) are both %#x", h, n, other, n, mix)
			}
			from[mix] = h
		}
	}
}

// P9.3: many hashes that differ in few bits.
func TestMix64OfNearHashes(t *testing.T) {
	for _, n := range []int{least, -1, 0, 5, greatest} {
		for _, shift := range []int{0, 16, 29, 32, 48} {
			seen := map[uint64]bool{}
			for h := range uint64(1 << 16) {
				seen[checksum.Mix64(h<<shift, n)] = true
			}
			if len(seen) != 1<<16 {
				t.Errorf("%d hashes shifted by %d give %d results with %d", 1<<16, shift, len(seen), n)
			}
		}
	}
}

// R6: a result does not depend on earlier calls.
func TestResultsStay(t *testing.T) {
	for range 3 {
		for _, b := range contents() {
			checksum.Seal(b)
			checksum.Open(b)
			if checksum.CRC32C([]byte("123456789")) != 0xe3069283 || checksum.HashInts(5) != 0x6a232b4fde07aec7 {
				t.Fatalf("other results after %.40q", b)
			}
			checksum.HashInts(len(b), -1)
		}
	}
}
