package codec_test

import (
	"math"
	"slices"
	"strings"
	"testing"

	"carom/api"
	"carom/codec"
)

const (
	least    = math.MinInt
	greatest = math.MaxInt
)

// written is a row of a table: a value and the encoding that the chapter asks for.
type written[T any] struct {
	value T
	want  string
}

// checkAppend compares call, which appends onto no bytes, with the rows and, on the samples, with oracle, which is held against the rows as well.
func checkAppend[T any](t *testing.T, call func([]byte, T) []byte, oracle func(T) []byte, rows []written[T], samples []T) {
	t.Helper()
	for _, r := range rows {
		if got := call(nil, r.value); string(got) != r.want {
			t.Errorf("%#v is encoded as %v, want %v", r.value, got, []byte(r.want))
		}
		if want := oracle(r.value); string(want) != r.want {
			t.Errorf("%#v: the oracle says %v, the row %v", r.value, want, []byte(r.want))
		}
	}
	for _, value := range samples {
		if got, want := call(nil, value), oracle(value); !slices.Equal(got, want) {
			t.Fatalf("%#v is encoded as %v, want %v", value, got, want)
		}
	}
}

func appendInts(b []byte, values []int) []byte {
	return codec.AppendInts(b, values...)
}

// P7.1
func TestAppendInt(t *testing.T) {
	checkAppend(t, codec.AppendInt, wantInt, []written[int]{
		{0, "\x00"},
		{1, "\x01\x01"},
		{-1, "\x11\x01"},
		{16, "\x01\x10"},
		{-16, "\x11\x10"},
		{127, "\x01\x7f"},
		{128, "\x01\x80"},
		{-128, "\x11\x80"},
		{-129, "\x11\x81"},
		{255, "\x01\xff"},
		{-255, "\x11\xff"},
		{256, "\x02\x01\x00"},
		{-256, "\x12\x01\x00"},
		{258, "\x02\x01\x02"},
		{-258, "\x12\x01\x02"},
		{1<<16 - 1, "\x02\xff\xff"},
		{1 << 16, "\x03\x01\x00\x00"},
		{1 - 1<<16, "\x12\xff\xff"},
		{-1 << 16, "\x13\x01\x00\x00"},
		{1<<24 - 1, "\x03\xff\xff\xff"},
		{1 << 24, "\x04\x01\x00\x00\x00"},
		{1 - 1<<24, "\x13\xff\xff\xff"},
		{-1 << 24, "\x14\x01\x00\x00\x00"},
		{0x01020304, "\x04\x01\x02\x03\x04"},
		{1<<31 - 1, "\x04\x7f\xff\xff\xff"},
		{-1 << 31, "\x14\x80\x00\x00\x00"},
		{1<<32 - 1, "\x04\xff\xff\xff\xff"},
		{1 << 32, "\x05\x01\x00\x00\x00\x00"},
		{1 - 1<<32, "\x14\xff\xff\xff\xff"},
		{-1 << 32, "\x15\x01\x00\x00\x00\x00"},
		{1<<40 - 1, "\x05\xff\xff\xff\xff\xff"},
		{1 << 40, "\x06\x01\x00\x00\x00\x00\x00"},
		{1 - 1<<40, "\x15\xff\xff\xff\xff\xff"},
		{-1 << 40, "\x16\x01\x00\x00\x00\x00\x00"},
		{1<<48 - 1, "\x06\xff\xff\xff\xff\xff\xff"},
		{1 << 48, "\x07\x01\x00\x00\x00\x00\x00\x00"},
		{1 - 1<<48, "\x16\xff\xff\xff\xff\xff\xff"},
		{-1 << 48, "\x17\x01\x00\x00\x00\x00\x00\x00"},
		{1<<56 - 1, "\x07\xff\xff\xff\xff\xff\xff\xff"},
		{1 << 56, "\x08\x01\x00\x00\x00\x00\x00\x00\x00"},
		{1 - 1<<56, "\x17\xff\xff\xff\xff\xff\xff\xff"},
		{-1 << 56, "\x18\x01\x00\x00\x00\x00\x00\x00\x00"},
		{0x0102030405060708, "\x08\x01\x02\x03\x04\x05\x06\x07\x08"},
		{-0x0102030405060708, "\x18\x01\x02\x03\x04\x05\x06\x07\x08"},
		{greatest - 1, "\x08\x7f\xff\xff\xff\xff\xff\xff\xfe"},
		{greatest, "\x08\x7f\xff\xff\xff\xff\xff\xff\xff"},
		{least + 2, "\x18\x7f\xff\xff\xff\xff\xff\xff\xfe"},
		{least + 1, "\x18\x7f\xff\xff\xff\xff\xff\xff\xff"},
		{least, "\x18\x80\x00\x00\x00\x00\x00\x00\x00"},
	}, numbers())
}

// P7.1
func TestAppendBool(t *testing.T) {
	checkAppend(t, codec.AppendBool, wantBool, []written[bool]{{false, "\x00"}, {true, "\x01"}}, nil)
}

// P7.1
func TestAppendString(t *testing.T) {
	checkAppend(t, codec.AppendString, wantString, []written[string]{
		{"", "\x00"},
		{"a", "\x01\x01a"},
		{"hi", "\x01\x02hi"},
		{"\x00", "\x01\x01\x00"},
		{"\x01\x01\x01", "\x01\x03\x01\x01\x01"},
		// The length counts bytes, and these are no characters.
		{"gr\xc3\xbc\xc3\x9fe", "\x01\x07gr\xc3\xbc\xc3\x9fe"},
		{"\xff\x80", "\x01\x02\xff\x80"},
		{strings.Repeat("x", 255), "\x01\xff" + strings.Repeat("x", 255)},
		{strings.Repeat("x", 256), "\x02\x01\x00" + strings.Repeat("x", 256)},
		{strings.Repeat("yz", 1<<15), "\x03\x01\x00\x00" + strings.Repeat("yz", 1<<15)},
	}, texts())
}

// P7.1
func TestAppendInts(t *testing.T) {
	checkAppend(t, appendInts, wantInts, []written[[]int]{
		{nil, "\x00"},
		{[]int{}, "\x00"},
		{[]int{0}, "\x01\x01\x00"},
		{[]int{7}, "\x01\x01\x01\x07"},
		{[]int{-7}, "\x01\x01\x11\x07"},
		{[]int{0, 0}, "\x01\x02\x00\x00"},
		{[]int{5, -6}, "\x01\x02\x01\x05\x11\x06"},
		{[]int{258, 0, -1, 3}, "\x01\x04\x02\x01\x02\x00\x11\x01\x01\x03"},
		{[]int{least, greatest}, "\x01\x02\x18\x80\x00\x00\x00\x00\x00\x00\x00\x08\x7f\xff\xff\xff\xff\xff\xff\xff"},
		{make([]int, 255), "\x01\xff" + strings.Repeat("\x00", 255)},
		{make([]int, 256), "\x02\x01\x00" + strings.Repeat("\x00", 256)},
	}, lists())
}

// P7.1: the values can be given one by one.
func TestAppendIntsOneByOne(t *testing.T) {
	for _, row := range []struct {
		got  []byte
		want string
	}{
		{codec.AppendInts(nil), "\x00"},
		{codec.AppendInts(nil, 258), "\x01\x01\x02\x01\x02"},
		{codec.AppendInts([]byte("b"), -1, 0, 1), "b\x01\x03\x11\x01\x00\x01\x01"},
	} {
		if string(row.got) != row.want {
			t.Errorf("got %v, want %v", row.got, []byte(row.want))
		}
	}
}

// P7.1
func TestAppendVec(t *testing.T) {
	checkAppend(t, codec.AppendVec, wantVec, []written[api.Vec]{
		{api.Vec{}, "\x00\x00"},
		{api.Vec{X: 3, Y: -4}, "\x01\x03\x11\x04"},
		{api.Vec{X: -256}, "\x12\x01\x00\x00"},
		{api.Vec{Y: 256}, "\x00\x02\x01\x00"},
		{api.Vec{X: api.One, Y: -api.One}, "\x03\x01\x00\x00\x13\x01\x00\x00"},
		// The components are not saturated.
		{api.Vec{X: greatest, Y: least}, "\x08\x7f\xff\xff\xff\xff\xff\xff\xff\x18\x80\x00\x00\x00\x00\x00\x00\x00"},
	}, vectors())
}

// appenders are calls that append values of every kind, each with the encoding of its value.
var appenders = []struct {
	name string
	call func([]byte) []byte
	code string
}{
	{"AppendInt(0)", func(b []byte) []byte { return codec.AppendInt(b, 0) }, "\x00"},
	{"AppendInt(-258)", func(b []byte) []byte { return codec.AppendInt(b, -258) }, "\x12\x01\x02"},
	{"AppendBool(false)", func(b []byte) []byte { return codec.AppendBool(b, false) }, "\x00"},
	{"AppendBool(true)", func(b []byte) []byte { return codec.AppendBool(b, true) }, "\x01"},
	{"AppendString()", func(b []byte) []byte { return codec.AppendString(b, "") }, "\x00"},
	{"AppendString(hi)", func(b []byte) []byte { return codec.AppendString(b, "hi") }, "\x01\x02hi"},
	{"AppendInts()", func(b []byte) []byte { return codec.AppendInts(b) }, "\x00"},
	{"AppendInts(5, -6)", func(b []byte) []byte { return codec.AppendInts(b, 5, -6) }, "\x01\x02\x01\x05\x11\x06"},
	{"AppendVec(0, 0)", func(b []byte) []byte { return codec.AppendVec(b, api.Vec{}) }, "\x00\x00"},
	{"AppendVec(3, -4)", func(b []byte) []byte { return codec.AppendVec(b, api.Vec{X: 3, Y: -4}) }, "\x01\x03\x11\x04"},
}

// P7.1: whatever capacity is behind the bytes, it stays as it is, and the result has memory of its own.
func TestAppendOnto(t *testing.T) {
	for _, a := range appenders {
		for _, length := range []int{0, 1, 2, 7, 8, 9, 300} {
			for _, room := range []int{0, 1, 2, 3, 4, 5, 8, 100} {
				whole := []byte(strings.Repeat("#", length+room))
				b := whole[:length]
				result := a.call(b)
				if want := strings.Repeat("#", length) + a.code; string(result) != want {
					t.Errorf("%s onto %d bytes gives %v, want %v", a.name, length, result, []byte(want))
				}
				result = result[:cap(result)]
				for i := range result {
					result[i] = '!'
				}
				if string(whole) != strings.Repeat("#", length+room) {
					t.Errorf("%s onto %d bytes with room for %d leaves %q", a.name, length, room, whole)
				}
			}
		}
	}
}

// P7.1: no bytes are as good as empty ones.
func TestAppendOntoNothing(t *testing.T) {
	for _, a := range appenders {
		for _, b := range [][]byte{nil, {}, make([]byte, 0, 1), make([]byte, 0, 64)} {
			if got := a.call(b); string(got) != a.code {
				t.Errorf("%s onto nothing gives %v, want %v", a.name, got, []byte(a.code))
			}
		}
	}
}

// P7.1: what is appended onto one result leaves the others as they are.
func TestAppendTwiceOntoOneResult(t *testing.T) {
	for _, first := range appenders {
		common := first.call([]byte("#"))
		var results [][]byte
		for _, second := range appenders {
			results = append(results, second.call(common))
		}
		for i, second := range appenders {
			if want := "#" + first.code + second.code; string(results[i]) != want {
				t.Errorf("%s and then %s give %v, want %v", first.name, second.name, results[i], []byte(want))
			}
		}
		if string(common) != "#"+first.code {
			t.Errorf("the result of %s is %v now", first.name, common)
		}
	}
}

// P7.1: the integers of a slice are only read.
func TestAppendIntsKeepsValues(t *testing.T) {
	values := []int{1, -2, 300, 4, 5}
	before := slices.Clone(values)
	result := codec.AppendInts(nil, values[:3]...)
	if !slices.Equal(values, before) {
		t.Errorf("the values are %v now", values)
	}
	clear(values)
	if string(result) != "\x01\x03\x01\x01\x11\x02\x02\x01\x2c" {
		t.Errorf("the result is %v now", result)
	}
}
