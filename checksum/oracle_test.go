package checksum_test

import (
	"encoding/binary"
	"hash/crc32"
	"math"
	"math/big"
	"math/rand"
	"slices"

	"carom/api"
)

// The functions of this file work the promised values out in other ways than the package: hashes with integers of any size, checksums by dividing polynomials, and what is sealed by the checksum of the whole buffer.

// digits returns the integer that text writes in hexadecimal digits.
func digits(text string) *big.Int {
	x, ok := new(big.Int).SetString(text, 16)
	if !ok {
		panic("not a number: " + text)
	}
	return x
}

// wrapped returns the rest of x when it is divided by 2^64.
func wrapped(x *big.Int) *big.Int {
	return new(big.Int).Mod(x, new(big.Int).Lsh(big.NewInt(1), 64))
}

// mixed returns x XOR (x >> shift).
func mixed(x *big.Int, shift uint) *big.Int {
	return new(big.Int).Xor(x, new(big.Int).Rsh(x, shift))
}

func wantMix64(h uint64, n int) uint64 {
	x := new(big.Int).Xor(new(big.Int).SetUint64(h), wrapped(big.NewInt(int64(n))))
	x = wrapped(x.Mul(x, digits("9e3779b97f4a7c15")))
	x = mixed(x, 32)
	x = wrapped(x.Mul(x, digits("d6e8feb86659fd93")))
	return mixed(x, 29).Uint64()
}

// unmixed returns the hash into which n was mixed when the result is mix. It goes back step by step: an odd factor is undone by its inverse, a shift by mixing shifted bits in until none are left.
func unmixed(mix uint64, n int) uint64 {
	x := new(big.Int).SetUint64(mix)
	x = mixed(mixed(x, 29), 58)
	x = wrapped(x.Mul(x, inverse("d6e8feb86659fd93")))
	x = mixed(x, 32)
	x = wrapped(x.Mul(x, inverse("9e3779b97f4a7c15")))
	return x.Xor(x, wrapped(big.NewInt(int64(n)))).Uint64()
}

// inverse returns the number whose product with the odd factor leaves 1 when it is divided by 2^64.
func inverse(factor string) *big.Int {
	return new(big.Int).ModInverse(digits(factor), new(big.Int).Lsh(big.NewInt(1), 64))
}

// wantHashInts mixes the last value into the hash of those before it.
func wantHashInts(values ...int) uint64 {
	return wantHashOf(len(values), values)
}

func wantHashOf(count int, values []int) uint64 {
	if len(values) == 0 {
		return uint64(count)
	}
	last := len(values) - 1
	return wantMix64(wantHashOf(count, values[:last]), values[last])
}

// powers are those of the polynomial of CRC-32C.
var powers = []int{32, 28, 27, 26, 25, 23, 22, 20, 19, 18, 14, 13, 11, 10, 9, 8, 6, 0}

// wantCRC32C takes the bits of b, each byte from its lowest bit on, as the coefficients of a polynomial, the highest power first. The checksum is the rest of its division.
func wantCRC32C(b []byte) uint32 {
	bits := make([]bool, 8*len(b)+32)
	for i := range 8 * len(b) {
		bits[i] = b[i/8]>>(i%8)&1 == 1
	}
	for i := range 32 {
		bits[i] = !bits[i]
	}
	for i := range 8 * len(b) {
		if bits[i] {
			for _, power := range powers {
				bits[i+32-power] = !bits[i+32-power]
			}
		}
	}
	sum := uint32(0)
	for i, bit := range bits[8*len(b):] {
		if !bit {
			sum |= 1 << i
		}
	}
	return sum
}

// libraryCRC32C is the checksum by the library of the language. It serves for long buffers.
func libraryCRC32C(b []byte) uint32 {
	return crc32.Checksum(b, crc32.MakeTable(crc32.Castagnoli))
}

func wantSeal(b []byte) []byte {
	return binary.LittleEndian.AppendUint32(slices.Clone(b), libraryCRC32C(b))
}

// opened is what Open answers.
type opened struct {
	content string
	err     api.Errno
}

// wantOpen knows a sealed buffer by its checksum, which is the same for all of them.
func wantOpen(b []byte) opened {
	switch {
	case len(b) < 4:
		return opened{"", api.ErrTruncated}
	case libraryCRC32C(b) != 0x48674bc7:
		return opened{"", api.ErrChecksum}
	}
	return opened{string(b[:len(b)-4]), api.OK}
}

// hashes are the ends of the range, the hashes about powers of two, and random hashes.
func hashes() []uint64 {
	list := []uint64{math.MaxUint64 - 1, math.MaxUint64}
	for shift := range 64 {
		list = append(list, 1<<shift-1, 1<<shift, 1<<shift+1)
	}
	source := rand.New(rand.NewSource(1))
	for range 300 {
		list = append(list, source.Uint64())
	}
	return list
}

// numbers are the ends of the range, the numbers about powers of two with both signs, and random numbers.
func numbers() []int {
	list := []int{least, least + 1, greatest - 1, greatest}
	for shift := range 63 {
		for _, n := range []int{1<<shift - 1, 1 << shift, 1<<shift + 1} {
			list = append(list, n, -n)
		}
	}
	source := rand.New(rand.NewSource(2))
	for i := range 300 {
		list = append(list, int(source.Uint64())>>(i%64))
	}
	return list
}

// contents are buffers of every length up to 40 and of some greater lengths, of equal, ascending and random bytes.
func contents() [][]byte {
	list := [][]byte{nil, {}, []byte("123456789"), []byte("a"), []byte("carom")}
	lengths := []int{63, 64, 65, 255, 256, 257, 1000, 4095, 4096, 4097}
	for length := range 41 {
		lengths = append(lengths, length)
	}
	source := rand.New(rand.NewSource(3))
	for _, length := range lengths {
		ascending, random := make([]byte, length), make([]byte, length)
		for i := range length {
			ascending[i] = byte(i)
		}
		source.Read(random)
		list = append(list, make([]byte, length), slices.Repeat([]byte{0xff}, length), ascending, random)
	}
	return list
}
