package codec_test

import (
	"fmt"
	"slices"
	"strings"
	"testing"

	"carom/api"
	"carom/codec"
)

// source is what a Read function is given: the bytes of a string, an offset and, where the function has one, the maximum.
type source struct {
	bytes    string
	at, most int
}

// read is a row of a table: the arguments and the answer that the chapter asks for.
type read[T any] struct {
	source source
	want   answer[T]
}

func good[T any](value T, end int) answer[T] {
	return answer[T]{value, end, api.OK}
}

func bad[T any](err api.Errno) answer[T] {
	return answer[T]{err: err}
}

// String writes the bytes of a string so that they can be printed.
func (a answer[T]) String() string {
	return fmt.Sprintf("(%#v, %d, error %d)", a.value, a.end, a.err)
}

func (a answer[T]) equals(b answer[T]) bool {
	if a.end != b.end || a.err != b.err {
		return false
	}
	if list, ok := any(a.value).([]int); ok {
		return slices.Equal(list, any(b.value).([]int))
	}
	return any(a.value) == any(b.value)
}

// The Read functions, all in the one form that the oracle has as well: those without a maximum ignore it.
func readInt(b []byte, at, _ int) answer[int] {
	value, end, err := codec.ReadInt(b, at)
	return answer[int]{value, end, err}
}

func readBool(b []byte, at, _ int) answer[bool] {
	value, end, err := codec.ReadBool(b, at)
	return answer[bool]{value, end, err}
}

func readString(b []byte, at, most int) answer[string] {
	value, end, err := codec.ReadString(b, at, most)
	return answer[string]{value, end, err}
}

func readInts(b []byte, at, most int) answer[[]int] {
	value, end, err := codec.ReadInts(b, at, most)
	return answer[[]int]{value, end, err}
}

func readVec(b []byte, at, _ int) answer[api.Vec] {
	value, end, err := codec.ReadVec(b, at)
	return answer[api.Vec]{value, end, err}
}

// checkRead compares call with the rows, which the oracle is held against as well.
func checkRead[T any](t *testing.T, call, oracle func([]byte, int, int) answer[T], rows []read[T]) {
	t.Helper()
	for _, r := range rows {
		b := []byte(r.source.bytes)
		if got := call(b, r.source.at, r.source.most); !got.equals(r.want) {
			t.Errorf("reading %v at %d (%d) gives %v, want %v", b, r.source.at, r.source.most, got, r.want)
		}
		if want := oracle(b, r.source.at, r.source.most); !want.equals(r.want) {
			t.Errorf("reading %v at %d (%d): the oracle says %v, the row %v", b, r.source.at, r.source.most, want, r.want)
		}
	}
}

const (
	half    = "\x80\x00\x00\x00\x00\x00\x00\x00" // 2^63
	below   = "\x7f\xff\xff\xff\xff\xff\xff\xff" // 2^63 - 1
	above   = "\x80\x00\x00\x00\x00\x00\x00\x01" // 2^63 + 1
	largest = "\xff\xff\xff\xff\xff\xff\xff\xff" // 2^64 - 1
)

// P7.2
func TestReadInt(t *testing.T) {
	checkRead(t, readInt, wantReadInt, []read[int]{
		{source{"\x00", 0, 0}, good(0, 1)},
		{source{"\x01\x01", 0, 0}, good(1, 2)},
		{source{"\x11\x01", 0, 0}, good(-1, 2)},
		{source{"\x02\x01\x02", 0, 0}, good(258, 3)},
		{source{"\x12\x01\x02", 0, 0}, good(-258, 3)},
		{source{"\x01\xff", 0, 0}, good(255, 2)},
		{source{"\x02\x01\x00", 0, 0}, good(256, 3)},
		{source{"\x07\xff\xff\xff\xff\xff\xff\xff", 0, 0}, good(1<<56-1, 8)},
		{source{"\x17\xff\xff\xff\xff\xff\xff\xff", 0, 0}, good(1-1<<56, 8)},
		{source{"\x08\x01\x02\x03\x04\x05\x06\x07\x08", 0, 0}, good(0x0102030405060708, 9)},
		{source{"\x18\x01\x02\x03\x04\x05\x06\x07\x08", 0, 0}, good(-0x0102030405060708, 9)},
		// The integer begins in the middle, and bytes may follow.
		{source{"\xff\x02\x01\x02\xff", 1, 0}, good(258, 4)},
		{source{"\x01\x07\x11\x08\x00", 0, 0}, good(7, 2)},
		{source{"\x01\x07\x11\x08\x00", 2, 0}, good(-8, 4)},
		{source{"\x01\x07\x11\x08\x00", 4, 0}, good(0, 5)},
		{source{"\x00\x00", 0, 0}, good(0, 1)},
		{source{"\x00\x00", 1, 0}, good(0, 2)},
		// The greatest absolute values.
		{source{"\x08" + below, 0, 0}, good(greatest, 9)},
		{source{"\x18" + below, 0, 0}, good(least+1, 9)},
		{source{"\x18" + half, 0, 0}, good(least, 9)},
		{source{"\x08" + half, 0, 0}, bad[int](api.ErrSyntax)},
		{source{"\x08" + above, 0, 0}, bad[int](api.ErrSyntax)},
		{source{"\x18" + above, 0, 0}, bad[int](api.ErrSyntax)},
		{source{"\x08" + largest, 0, 0}, bad[int](api.ErrSyntax)},
		{source{"\x18" + largest, 0, 0}, bad[int](api.ErrSyntax)},
		// There are too few bytes.
		{source{"", 0, 0}, bad[int](api.ErrTruncated)},
		{source{"\x01\x07", 2, 0}, bad[int](api.ErrTruncated)},
		{source{"\x01", 0, 0}, bad[int](api.ErrTruncated)},
		{source{"\x11", 0, 0}, bad[int](api.ErrTruncated)},
		{source{"\x02\x01", 0, 0}, bad[int](api.ErrTruncated)},
		{source{"\x08" + below[:7], 0, 0}, bad[int](api.ErrTruncated)},
		{source{"\x18" + half[:7], 0, 0}, bad[int](api.ErrTruncated)},
		// The first byte of the absolute value is 0.
		{source{"\x01\x00", 0, 0}, bad[int](api.ErrSyntax)},
		{source{"\x11\x00", 0, 0}, bad[int](api.ErrSyntax)},
		{source{"\x02\x00\x01", 0, 0}, bad[int](api.ErrSyntax)},
		{source{"\x12\x00\xff", 0, 0}, bad[int](api.ErrSyntax)},
		{source{"\x08\x00" + largest[1:], 0, 0}, bad[int](api.ErrSyntax)},
		// There is no such header.
		{source{"\x09", 0, 0}, bad[int](api.ErrSyntax)},
		{source{"\x0f" + largest + largest, 0, 0}, bad[int](api.ErrSyntax)},
		{source{"\x10", 0, 0}, bad[int](api.ErrSyntax)},
		{source{"\x10\x01", 0, 0}, bad[int](api.ErrSyntax)},
		{source{"\x19" + largest + largest, 0, 0}, bad[int](api.ErrSyntax)},
		{source{"\x20\x01", 0, 0}, bad[int](api.ErrSyntax)},
		{source{"\x21\x01", 0, 0}, bad[int](api.ErrSyntax)},
		{source{"\x80\x01", 0, 0}, bad[int](api.ErrSyntax)},
		{source{"\xff\x01", 0, 0}, bad[int](api.ErrSyntax)},
		// The error that is mentioned first is the one of a lacking byte, not of the value.
		{source{"\x02\x00", 0, 0}, bad[int](api.ErrTruncated)},
		{source{"\x08" + largest[:7], 0, 0}, bad[int](api.ErrTruncated)},
		{source{"\x18\x00", 0, 0}, bad[int](api.ErrTruncated)},
	})
}

// P7.2: every header, with every number of bytes behind it.
func TestReadIntHeaders(t *testing.T) {
	for header := range 256 {
		size := header % 16
		valid := header <= 8 || header >= 17 && header <= 24
		for behind := range 18 {
			b := slices.Concat([]byte{byte(header)}, []byte(strings.Repeat("\x01", behind)))
			got := readInt(b, 0, 0)
			switch {
			case !valid:
				if got != bad[int](api.ErrSyntax) {
					t.Errorf("header %d before %d bytes gives %v", header, behind, got)
				}
			case behind < size:
				if got != bad[int](api.ErrTruncated) {
					t.Errorf("header %d before %d bytes gives %v", header, behind, got)
				}
			default:
				n := 0
				for range size {
					n = 256*n + 1
				}
				if header > 16 {
					n = -n
				}
				if got != good(n, 1+size) {
					t.Errorf("header %d before %d bytes gives %v, want %d", header, behind, got, n)
				}
			}
		}
	}
}

// P7.2
func TestReadBool(t *testing.T) {
	rows := []read[bool]{
		{source{"\x00", 0, 0}, good(false, 1)},
		{source{"\x01", 0, 0}, good(true, 1)},
		{source{"\x05\x01\x00\x02", 1, 0}, good(true, 2)},
		{source{"\x05\x01\x00\x02", 2, 0}, good(false, 3)},
		{source{"\x05\x01\x00\x02", 3, 0}, bad[bool](api.ErrSyntax)},
		{source{"", 0, 0}, bad[bool](api.ErrTruncated)},
		{source{"\x01", 1, 0}, bad[bool](api.ErrTruncated)},
	}
	for value := 2; value < 256; value++ {
		rows = append(rows, read[bool]{source{string([]byte{byte(value)}), 0, 0}, bad[bool](api.ErrSyntax)})
	}
	checkRead(t, readBool, wantReadBool, rows)
}

// P7.2
func TestReadString(t *testing.T) {
	long := strings.Repeat("xyz", 100)
	checkRead(t, readString, wantReadString, []read[string]{
		{source{"\x00", 0, 0}, good("", 1)},
		{source{"\x01\x02hi", 0, 2}, good("hi", 4)},
		{source{"\x01\x02hi", 0, greatest}, good("hi", 4)},
		{source{"\x01\x03\x00\xff\x80", 0, 3}, good("\x00\xff\x80", 5)},
		{source{"\x02\x01\x2c" + long, 0, 300}, good(long, 303)},
		{source{"??\x01\x02hi!!", 2, 2}, good("hi", 6)},
		{source{"\x01\x02hi\x01\x01!", 4, 9}, good("!", 7)},
		{source{"\x01\x01\x00", 2, 9}, good("", 3)},
		// The length is the maximum or exceeds it; a negative maximum counts as 0.
		{source{"\x01\x01a", 0, 1}, good("a", 3)},
		{source{"\x01\x01a", 0, 0}, bad[string](api.ErrTooLong)},
		{source{"\x01\x01a", 0, -1}, bad[string](api.ErrTooLong)},
		{source{"\x01\x01a", 0, least}, bad[string](api.ErrTooLong)},
		{source{"\x01\x03abc", 0, 3}, good("abc", 5)},
		{source{"\x01\x03abc", 0, 2}, bad[string](api.ErrTooLong)},
		{source{"\x02\x01\x2c" + long, 0, 299}, bad[string](api.ErrTooLong)},
		{source{"\x00", 0, -1}, good("", 1)},
		{source{"\x00", 0, least}, good("", 1)},
		{source{"\x00", 0, greatest}, good("", 1)},
		{source{"\x08" + below, 0, greatest - 1}, bad[string](api.ErrTooLong)},
		// Bytes are missing.
		{source{"\x01\x01", 0, 1}, bad[string](api.ErrTruncated)},
		{source{"\x01\x03ab", 0, 3}, bad[string](api.ErrTruncated)},
		{source{"??\x01\x03ab", 2, 3}, bad[string](api.ErrTruncated)},
		{source{"\x02\x01\x2c" + long[1:], 0, 300}, bad[string](api.ErrTruncated)},
		{source{"\x08" + below, 0, greatest}, bad[string](api.ErrTruncated)},
		{source{"\x08" + below + "abc", 0, greatest}, bad[string](api.ErrTruncated)},
		{source{"????\x08" + below + "abc", 4, greatest}, bad[string](api.ErrTruncated)},
		{source{"\x05\x01\x00\x00\x00\x00abc", 0, greatest}, bad[string](api.ErrTruncated)},
		// The length is negative.
		{source{"\x11\x01", 0, 9}, bad[string](api.ErrSyntax)},
		{source{"\x11\x01a", 0, greatest}, bad[string](api.ErrSyntax)},
		{source{"\x11\x01a", 0, least}, bad[string](api.ErrSyntax)},
		{source{"\x18" + half, 0, 0}, bad[string](api.ErrSyntax)},
		{source{"\x18" + half, 0, least}, bad[string](api.ErrSyntax)},
		// The length is none.
		{source{"", 0, 9}, bad[string](api.ErrTruncated)},
		{source{"\x01", 0, 9}, bad[string](api.ErrTruncated)},
		{source{"\x02\x01", 0, 0}, bad[string](api.ErrTruncated)},
		{source{"\x01\x00", 0, 9}, bad[string](api.ErrSyntax)},
		{source{"\x02\x00\x01a", 0, 9}, bad[string](api.ErrSyntax)},
		{source{"\x10", 0, 9}, bad[string](api.ErrSyntax)},
		{source{"\x08" + half, 0, greatest}, bad[string](api.ErrSyntax)},
		{source{"hi", 0, 9}, bad[string](api.ErrSyntax)},
		// The error that is mentioned first is the one of the maximum, not of the bytes.
		{source{"\x01\x03ab", 0, 2}, bad[string](api.ErrTooLong)},
		{source{"\x01\x03", 0, -1}, bad[string](api.ErrTooLong)},
	})
}

// P7.2
func TestReadInts(t *testing.T) {
	zeros := strings.Repeat("\x00", 300)
	checkRead(t, readInts, wantReadInts, []read[[]int]{
		{source{"\x00", 0, 0}, good[[]int](nil, 1)},
		{source{"\x01\x01\x00", 0, 1}, good([]int{0}, 3)},
		{source{"\x01\x02\x01\x05\x11\x06", 0, 2}, good([]int{5, -6}, 6)},
		{source{"\x01\x02\x01\x05\x11\x06", 0, greatest}, good([]int{5, -6}, 6)},
		{source{"\x01\x02\x18" + half + "\x08" + below, 0, 2}, good([]int{least, greatest}, 20)},
		{source{"\x02\x01\x2c" + zeros, 0, 300}, good(make([]int, 300), 303)},
		{source{"??\x01\x02\x01\x05\x11\x06!!", 2, 2}, good([]int{5, -6}, 8)},
		{source{"\x01\x02\x01\x01\x01\x07\x00", 2, 9}, good([]int{7}, 6)},
		// The length is the maximum or exceeds it; a negative maximum counts as 0.
		{source{"\x01\x01\x00", 0, 0}, bad[[]int](api.ErrTooLong)},
		{source{"\x01\x01\x00", 0, -1}, bad[[]int](api.ErrTooLong)},
		{source{"\x01\x01\x00", 0, least}, bad[[]int](api.ErrTooLong)},
		{source{"\x01\x03\x00\x00\x00", 0, 3}, good([]int{0, 0, 0}, 5)},
		{source{"\x01\x03\x00\x00\x00", 0, 2}, bad[[]int](api.ErrTooLong)},
		{source{"\x02\x01\x2c" + zeros, 0, 299}, bad[[]int](api.ErrTooLong)},
		{source{"\x00", 0, -1}, good[[]int](nil, 1)},
		{source{"\x00", 0, least}, good[[]int](nil, 1)},
		{source{"\x00", 0, greatest}, good[[]int](nil, 1)},
		{source{"\x08" + below, 0, greatest - 1}, bad[[]int](api.ErrTooLong)},
		// Elements are missing.
		{source{"\x01\x01", 0, 1}, bad[[]int](api.ErrTruncated)},
		{source{"\x01\x02\x00", 0, 2}, bad[[]int](api.ErrTruncated)},
		{source{"\x02\x01\x2c" + zeros[1:], 0, 300}, bad[[]int](api.ErrTruncated)},
		{source{"\x08" + below, 0, greatest}, bad[[]int](api.ErrTruncated)},
		{source{"\x08" + below + zeros, 0, greatest}, bad[[]int](api.ErrTruncated)},
		{source{"\x05\x01\x00\x00\x00\x00\x00", 0, greatest}, bad[[]int](api.ErrTruncated)},
		// Bytes of the first, a middle and the last element are missing.
		{source{"\x01\x01\x01", 0, 1}, bad[[]int](api.ErrTruncated)},
		{source{"\x01\x03\x02\x01", 0, 3}, bad[[]int](api.ErrTruncated)},
		{source{"\x01\x03\x00\x02\x01", 0, 3}, bad[[]int](api.ErrTruncated)},
		{source{"\x01\x03\x00\x00\x12\x01", 0, 3}, bad[[]int](api.ErrTruncated)},
		// The first, a middle and the last element are none.
		{source{"\x01\x03\x10\x00\x00", 0, 3}, bad[[]int](api.ErrSyntax)},
		{source{"\x01\x03\x00\x01\x00\x00", 0, 3}, bad[[]int](api.ErrSyntax)},
		{source{"\x01\x03\x00\x00\x08" + half, 0, 3}, bad[[]int](api.ErrSyntax)},
		{source{"\x01\x02\x01\x07\x18" + above, 0, 2}, bad[[]int](api.ErrSyntax)},
		// The first error counts, even if elements are missing as well.
		{source{"\x01\x03\x00\xff", 0, 3}, bad[[]int](api.ErrSyntax)},
		{source{"\x01\x03\x09", 0, 3}, bad[[]int](api.ErrSyntax)},
		{source{"\x08" + below + "\x01\x00", 0, greatest}, bad[[]int](api.ErrSyntax)},
		// The length is negative.
		{source{"\x11\x01\x00", 0, 9}, bad[[]int](api.ErrSyntax)},
		{source{"\x11\x01\x00", 0, least}, bad[[]int](api.ErrSyntax)},
		{source{"\x18" + half, 0, greatest}, bad[[]int](api.ErrSyntax)},
		{source{"\x18" + half, 0, 0}, bad[[]int](api.ErrSyntax)},
		// The length is none.
		{source{"", 0, 9}, bad[[]int](api.ErrTruncated)},
		{source{"\x02\x01", 0, 0}, bad[[]int](api.ErrTruncated)},
		{source{"\x01\x00", 0, 9}, bad[[]int](api.ErrSyntax)},
		{source{"\x10", 0, 9}, bad[[]int](api.ErrSyntax)},
		{source{"\x08" + half, 0, greatest}, bad[[]int](api.ErrSyntax)},
		// The error that is mentioned first is the one of the maximum, not of the elements.
		{source{"\x01\x03\x00\x00", 0, 2}, bad[[]int](api.ErrTooLong)},
		{source{"\x01\x03\xff", 0, 2}, bad[[]int](api.ErrTooLong)},
		{source{"\x01\x01", 0, least}, bad[[]int](api.ErrTooLong)},
	})
}

// P7.2
func TestReadVec(t *testing.T) {
	checkRead(t, readVec, wantReadVec, []read[api.Vec]{
		{source{"\x00\x00", 0, 0}, good(api.Vec{}, 2)},
		{source{"\x01\x03\x11\x04", 0, 0}, good(api.Vec{X: 3, Y: -4}, 4)},
		{source{"?\x11\x03\x00!", 1, 0}, good(api.Vec{X: -3}, 4)},
		{source{"\x01\x03\x11\x04\x00", 2, 0}, good(api.Vec{X: -4}, 5)},
		{source{"\x08" + below + "\x18" + half, 0, 0}, good(api.Vec{X: greatest, Y: least}, 18)},
		// The error is that of X, whatever is behind it.
		{source{"", 0, 0}, bad[api.Vec](api.ErrTruncated)},
		{source{"\x02\x01", 0, 0}, bad[api.Vec](api.ErrTruncated)},
		{source{"\x10\x00", 0, 0}, bad[api.Vec](api.ErrSyntax)},
		{source{"\x01\x00", 0, 0}, bad[api.Vec](api.ErrSyntax)},
		{source{"\x01\x00\x01", 0, 0}, bad[api.Vec](api.ErrSyntax)},
		{source{"\x08" + half + "\x00", 0, 0}, bad[api.Vec](api.ErrSyntax)},
		{source{"\x18" + above + "\x10", 0, 0}, bad[api.Vec](api.ErrSyntax)},
		// The error is that of Y.
		{source{"\x00", 0, 0}, bad[api.Vec](api.ErrTruncated)},
		{source{"\x01\x03", 0, 0}, bad[api.Vec](api.ErrTruncated)},
		{source{"\x01\x03\x01", 0, 0}, bad[api.Vec](api.ErrTruncated)},
		{source{"\x01\x03\x02\x00", 0, 0}, bad[api.Vec](api.ErrTruncated)},
		{source{"\x01\x03\x09", 0, 0}, bad[api.Vec](api.ErrSyntax)},
		{source{"\x01\x03\x11\x00", 0, 0}, bad[api.Vec](api.ErrSyntax)},
		{source{"\x01\x03\x08" + largest, 0, 0}, bad[api.Vec](api.ErrSyntax)},
	})
}

// checkOffsets reads at offsets in and outside of bytes that encode a value at each offset.
func checkOffsets[T any](t *testing.T, call func([]byte, int, int) answer[T]) {
	t.Helper()
	for _, length := range []int{0, 1, 2, 9, 40} {
		b := make([]byte, length, length+50)
		for _, at := range []int{least, least + 1, -1 << 32, -length - 1, -length, -2, -1, length + 1, length + 2, length + 50, 1 << 32, greatest - 1, greatest} {
			if at >= 0 && at <= length {
				continue
			}
			for _, most := range []int{least, -1, 0, 9, greatest} {
				if got := call(b, at, most); !got.equals(bad[T](api.ErrArgument)) {
					t.Errorf("reading %d bytes at %d (%d) gives %v", length, at, most, got)
				}
			}
		}
		if got := call(b, length, 9); !got.equals(bad[T](api.ErrTruncated)) {
			t.Errorf("reading %d bytes at their end gives %v", length, got)
		}
		for at := range max(length-1, 0) {
			if got := call(b, at, 9); got.err != api.OK || got.end <= at || got.end > at+2 {
				t.Errorf("reading %d bytes at %d gives %v", length, at, got)
			}
		}
	}
	for _, at := range []int{least, -1, 1, greatest} {
		if got := call(nil, at, 9); !got.equals(bad[T](api.ErrArgument)) {
			t.Errorf("reading no bytes at %d gives %v", at, got)
		}
	}
	if got := call(nil, 0, 9); !got.equals(bad[T](api.ErrTruncated)) {
		t.Errorf("reading no bytes at 0 gives %v", got)
	}
}

// P7.2: the bytes in the capacity behind the length are not there, and the offset is examined first.
func TestOffsets(t *testing.T) {
	checkOffsets(t, readInt)
	checkOffsets(t, readBool)
	checkOffsets(t, readString)
	checkOffsets(t, readInts)
	checkOffsets(t, readVec)
}

// checkBuffers compares call with the oracle on all buffers, at all offsets in them and just outside. Whatever is read is, when it is appended again, what was there.
func checkBuffers[T any](t *testing.T, call, oracle func([]byte, int, int) answer[T], encode func([]byte, T) []byte, maxima ...int) {
	t.Helper()
	for _, b := range buffers() {
		before := slices.Clone(b)
		for at := -1; at <= len(b)+1; at++ {
			for _, most := range maxima {
				got, want := call(b, at, most), oracle(b, at, most)
				if !got.equals(want) {
					t.Fatalf("reading %v at %d (%d) gives %v, want %v", b, at, most, got, want)
				}
				if got.err != api.OK {
					continue
				}
				if code := encode(b[:at], got.value); !slices.Equal(code, b[:got.end]) {
					t.Fatalf("reading %v at %d (%d) and appending gives %v", b, at, most, code)
				}
			}
		}
		if !slices.Equal(b, before) {
			t.Fatalf("%v is %v after reading", before, b)
		}
	}
}

// P7.2, P7.3
func TestReadBuffers(t *testing.T) {
	checkBuffers(t, readInt, wantReadInt, codec.AppendInt, 0)
	checkBuffers(t, readBool, wantReadBool, codec.AppendBool, 0)
	checkBuffers(t, readString, wantReadString, codec.AppendString, -1, 1, greatest)
	checkBuffers(t, readInts, wantReadInts, appendInts, -1, 2, greatest)
	checkBuffers(t, readVec, wantReadVec, codec.AppendVec, 0)
}

// checkRoundTrip reads what call has appended: the value is the same whatever bytes follow, and no shorter bytes give a value.
func checkRoundTrip[T any](t *testing.T, encode func([]byte, T) []byte, decode func([]byte, int, int) answer[T], most int, values []T) {
	t.Helper()
	for _, value := range values {
		for _, before := range []string{"", "?", "\x08\x00\x11"} {
			code := encode([]byte(before), value)
			for _, behind := range []string{"", "\x00", "\x01\x01", "\xff\xff\xff", largest} {
				b := append(slices.Clone(code), behind...)
				if got := decode(b, len(before), most); !got.equals(good(value, len(code))) {
					t.Fatalf("%#v becomes %v behind %q and before %q", value, got, before, behind)
				}
			}
			for _, end := range shorter(len(before), len(code)) {
				if got := decode(code[:end], len(before), most); !got.equals(bad[T](api.ErrTruncated)) {
					t.Fatalf("%d of %d bytes of %#v give %v", end, len(code), value, got)
				}
			}
		}
	}
}

// shorter returns ends from first on and below last: all of them, or some of very many.
func shorter(first, last int) []int {
	var list []int
	for end := first; end < last; end++ {
		if end < first+20 || end >= last-20 {
			list = append(list, end)
		}
	}
	return list
}

// P7.1, P7.2, P7.3
func TestRoundTrip(t *testing.T) {
	checkRoundTrip(t, codec.AppendInt, readInt, 0, numbers())
	checkRoundTrip(t, codec.AppendBool, readBool, 0, []bool{false, true})
	checkRoundTrip(t, codec.AppendString, readString, 65537, texts())
	checkRoundTrip(t, appendInts, readInts, 5000, lists())
	checkRoundTrip(t, codec.AppendVec, readVec, 0, vectors())
}

// P7.3: no two values have one encoding, and no encoding is the beginning of another one.
func TestEncodingsDiffer(t *testing.T) {
	all := numbers()
	slices.Sort(all)
	all = slices.Compact(all)
	var codes []string
	for _, n := range all {
		codes = append(codes, string(codec.AppendInt(nil, n)))
	}
	slices.Sort(codes)
	for i, code := range codes[1:] {
		if strings.HasPrefix(code, codes[i]) {
			t.Errorf("%q begins with %q", code, codes[i])
		}
	}
}

// P7.1, P7.2: values of all kinds one behind the other.
func TestSequence(t *testing.T) {
	b := codec.AppendInt(nil, -300)
	b = codec.AppendString(b, "name")
	b = codec.AppendBool(b, true)
	b = codec.AppendInts(b, 1, 2, 3)
	b = codec.AppendVec(b, api.Vec{X: -1, Y: api.One})
	b = codec.AppendBool(b, false)
	number := readInt(b, 0, 0)
	name := readString(b, number.end, 4)
	yes := readBool(b, name.end, 0)
	values := readInts(b, yes.end, 3)
	v := readVec(b, values.end, 0)
	no := readBool(b, v.end, 0)
	if number.value != -300 || name.value != "name" || !yes.value || !slices.Equal(values.value, []int{1, 2, 3}) || v.value != (api.Vec{X: -1, Y: api.One}) || no != good(false, len(b)) {
		t.Errorf("%v becomes %v, %v, %v, %v, %v, %v", b, number, name, yes, values, v, no)
	}
}

// P7.2: what has been read does not change with the bytes, nor with what is read again.
func TestReadSharesNothing(t *testing.T) {
	b := codec.AppendInts(codec.AppendString(nil, "name"), 1, 2, 3)
	name := readString(b, 0, 9)
	first, second := readInts(b, name.end, 9), readInts(b, name.end, 9)
	clear(second.value)
	if !slices.Equal(first.value, []int{1, 2, 3}) {
		t.Errorf("the first slice is %v now", first.value)
	}
	clear(b)
	if name.value != "name" || !slices.Equal(first.value, []int{1, 2, 3}) {
		t.Errorf("the values are %q and %v now", name.value, first.value)
	}
}

// The examples of chapter 7.
func TestExamples(t *testing.T) {
	for n, code := range map[int][]byte{258: {2, 1, 2}, -1: {17, 1}, 0: {0}} {
		if got := codec.AppendInt(nil, n); !slices.Equal(got, code) {
			t.Errorf("%d is encoded as %v, want %v", n, got, code)
		}
		if got := readInt(code, 0, 0); got != good(n, len(code)) {
			t.Errorf("%v is read as %v, want %d", code, got, n)
		}
	}
}
