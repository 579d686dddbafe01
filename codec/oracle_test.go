package codec_test

import (
	"math"
	"math/big"
	"math/rand"
	"slices"

	"carom/api"
)

// The functions of this file work the promised values out in other ways than the package: absolute values as integers of any size, and errors by cutting what has been read off the front of the bytes.

// wantInt is the encoding of n.
func wantInt(n int) []byte {
	digits := big.NewInt(int64(n))
	header := len(digits.Bytes())
	if n < 0 {
		header += 16
	}
	return slices.Concat([]byte{byte(header)}, digits.Bytes())
}

func wantBool(x bool) []byte {
	return map[bool][]byte{true: {1}, false: {0}}[x]
}

func wantString(s string) []byte {
	return slices.Concat(wantInt(len(s)), []byte(s))
}

func wantInts(values []int) []byte {
	code := wantInt(len(values))
	for _, value := range values {
		code = slices.Concat(code, wantInt(value))
	}
	return code
}

func wantVec(v api.Vec) []byte {
	return slices.Concat(wantInt(v.X), wantInt(v.Y))
}

// from returns the bytes of b from offset at on.
func from(b []byte, at int) ([]byte, api.Errno) {
	for range at {
		if len(b) == 0 {
			return nil, api.ErrArgument
		}
		b = b[1:]
	}
	if at < 0 {
		return nil, api.ErrArgument
	}
	return b, api.OK
}

// takeInt returns the integer at the beginning of b and the bytes behind it.
func takeInt(b []byte) (int, []byte, api.Errno) {
	if len(b) == 0 {
		return 0, nil, api.ErrTruncated
	}
	size, below := int(b[0]), false
	if 17 <= size && size <= 24 {
		size, below = size-16, true
	}
	if size > 8 {
		return 0, nil, api.ErrSyntax
	}
	digits, behind := b[1:], b[1:]
	if len(digits) < size {
		return 0, nil, api.ErrTruncated
	}
	digits, behind = digits[:size], behind[size:]
	number := new(big.Int).SetBytes(digits)
	if below {
		number.Neg(number)
	}
	if len(digits) > 0 && digits[0] == 0 || !number.IsInt64() {
		return 0, nil, api.ErrSyntax
	}
	return int(number.Int64()), behind, api.OK
}

// takeLength returns the length at the beginning of b and the bytes behind it.
func takeLength(b []byte, most int) (int, []byte, api.Errno) {
	length, b, err := takeInt(b)
	switch {
	case err != api.OK:
		return 0, nil, err
	case length < 0:
		return 0, nil, api.ErrSyntax
	case length == 0:
		return 0, b, api.OK
	case most < length:
		return 0, nil, api.ErrTooLong
	}
	return length, b, api.OK
}

// answer is what a Read function answers.
type answer[T any] struct {
	value T
	end   int
	err   api.Errno
}

// expect tells what a Read function has to answer, by what take answers of the bytes from offset at on.
func expect[T any](b []byte, at int, take func([]byte) (T, []byte, api.Errno)) answer[T] {
	rest, err := from(b, at)
	if err != api.OK {
		return answer[T]{err: err}
	}
	value, behind, err := take(rest)
	if err != api.OK {
		return answer[T]{err: err}
	}
	return answer[T]{value, len(b) - len(behind), api.OK}
}

func wantReadInt(b []byte, at, _ int) answer[int] {
	return expect(b, at, takeInt)
}

func wantReadBool(b []byte, at, _ int) answer[bool] {
	return expect(b, at, func(b []byte) (bool, []byte, api.Errno) {
		switch {
		case len(b) == 0:
			return false, nil, api.ErrTruncated
		case b[0] == 0:
			return false, b[1:], api.OK
		case b[0] == 1:
			return true, b[1:], api.OK
		}
		return false, nil, api.ErrSyntax
	})
}

func wantReadString(b []byte, at, most int) answer[string] {
	return expect(b, at, func(b []byte) (string, []byte, api.Errno) {
		length, b, err := takeLength(b, most)
		if err != api.OK {
			return "", nil, err
		}
		rest, err := from(b, length)
		if err != api.OK {
			return "", nil, api.ErrTruncated
		}
		return string(b[:length]), rest, api.OK
	})
}

func wantReadInts(b []byte, at, most int) answer[[]int] {
	return expect(b, at, func(b []byte) ([]int, []byte, api.Errno) {
		length, b, err := takeLength(b, most)
		if err != api.OK {
			return nil, nil, err
		}
		var values []int
		for len(values) < length {
			value, rest, err := takeInt(b)
			if err != api.OK {
				return nil, nil, err
			}
			values, b = append(values, value), rest
		}
		return values, b, api.OK
	})
}

func wantReadVec(b []byte, at, _ int) answer[api.Vec] {
	return expect(b, at, func(b []byte) (api.Vec, []byte, api.Errno) {
		x, b, err := takeInt(b)
		if err != api.OK {
			return api.Vec{}, nil, err
		}
		y, b, err := takeInt(b)
		return api.Vec{X: x, Y: y}, b, err
	})
}

// numbers are the ends of the range, the numbers about powers of two with both signs, and random numbers of every size.
func numbers() []int {
	list := []int{math.MinInt, math.MinInt + 1, math.MaxInt - 1, math.MaxInt}
	for shift := range 63 {
		for _, n := range []int{1<<shift - 1, 1 << shift, 1<<shift + 1} {
			list = append(list, n, -n)
		}
	}
	source := rand.New(rand.NewSource(1))
	for i := range 5000 {
		list = append(list, int(source.Uint64())>>(i%64))
	}
	return list
}

// texts are strings with lengths about those at which the encoding of the length grows, and strings of bytes that are no letters.
func texts() []string {
	list := []string{"", "a", "hi", "\x00", "\x01\x00", "\xff\xfe", "\xc3", "gr\xc3\xbc\xc3\x9fe"}
	for _, length := range []int{7, 8, 9, 15, 16, 17, 24, 25, 127, 128, 255, 256, 257, 65535, 65536, 65537} {
		text := make([]byte, length)
		for i := range text {
			text[i] = byte(i * 7)
		}
		list = append(list, string(text))
	}
	return list
}

// lists are slices of integers with lengths about those at which the encoding of the length grows.
func lists() [][]int {
	all := numbers()
	list := [][]int{nil, {}, {0}, {1}, {-1}, {256}, {math.MinInt}, {math.MaxInt}, {5, -6}, {0, 0, 0}, {math.MaxInt, 0, math.MinInt}}
	for _, length := range []int{8, 9, 16, 17, 24, 255, 256, 257, 5000} {
		list = append(list, all[:length])
	}
	return list
}

// vectors are all vectors of some numbers.
func vectors() []api.Vec {
	components := []int{math.MinInt, -1 << 32, -256, -255, -1, 0, 1, 127, 128, 255, 256, api.One, api.MaxValue, 1 << 62, math.MaxInt}
	var list []api.Vec
	for _, x := range components {
		for _, y := range components {
			list = append(list, api.Vec{X: x, Y: y})
		}
	}
	return list
}

// buffers are all slices of at most two bytes, short slices of the bytes that headers and digits turn on, and longer random slices of such bytes.
func buffers() [][]byte {
	list := [][]byte{nil, {}}
	for first := range 256 {
		list = append(list, []byte{byte(first)})
		for second := range 256 {
			list = append(list, []byte{byte(first), byte(second)})
		}
	}
	short := []byte{0, 1, 2, 3, 8, 9, 16, 17, 18, 24, 25, 128, 255}
	list = append(list, words(short, 3)...)
	list = append(list, words(short, 4)...)
	list = append(list, words([]byte{0, 1, 2, 17}, 6)...)
	source := rand.New(rand.NewSource(2))
	for range 20000 {
		b := make([]byte, source.Intn(24))
		for i := range b {
			b[i] = short[source.Intn(len(short))]
		}
		list = append(list, b)
	}
	return append(list, eightDigits()...)
}

// words returns all slices of n of the letters.
func words(letters []byte, n int) [][]byte {
	list := [][]byte{nil}
	for range n {
		var longer [][]byte
		for _, word := range list {
			for _, letter := range letters {
				longer = append(longer, append(slices.Clone(word), letter))
			}
		}
		list = longer
	}
	return list
}

// eightDigits returns absolute values of eight bytes about the ends of the range, behind every header for as many.
func eightDigits() [][]byte {
	var list [][]byte
	for _, header := range []byte{7, 8, 9, 23, 24, 25} {
		for _, first := range []byte{0, 1, 0x7f, 0x80, 0x81, 0xff} {
			for _, middle := range []byte{0, 1, 0xff} {
				for _, last := range []byte{0, 1, 2, 0xfe, 0xff} {
					list = append(list, []byte{header, first, middle, middle, middle, middle, middle, middle, last})
				}
			}
		}
	}
	return list
}
