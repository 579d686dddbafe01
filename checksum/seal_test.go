package checksum_test

import (
	"math/rand"
	"slices"
	"strings"
	"testing"

	"carom/api"
	"carom/checksum"
)

func open(b []byte) opened {
	content, err := checksum.Open(b)
	return opened{string(content), err}
}

// P9.2
func TestSeal(t *testing.T) {
	rows := []struct{ bytes, want string }{
		{"", "\x00\x00\x00\x00"},
		{"\x00", "\x00\x51\x53\x7d\x52"},
		{"\xff", "\xff\x00\x00\x00\xff"},
		{"a", "a\x30\x43\xd0\xc1"},
		{"123456789", "123456789\x83\x92\x06\xe3"},
		{"\x00\x00\x00\x00", "\x00\x00\x00\x00\xc7\x4b\x67\x48"},
		{"\xff\xff\xff\xff", "\xff\xff\xff\xff\xff\xff\xff\xff"},
		{strings.Repeat("\x00", 32), strings.Repeat("\x00", 32) + "\xaa\x36\x91\x8a"},
		{strings.Repeat("a", 65536), strings.Repeat("a", 65536) + "\x3f\xed\x95\x4e"},
	}
	for _, row := range rows {
		if got := checksum.Seal([]byte(row.bytes)); string(got) != row.want {
			t.Errorf("Seal(%.40q) gives %d bytes that end with %q", row.bytes, len(got), got[max(0, len(got)-4):])
		}
		if want := wantSeal([]byte(row.bytes)); string(want) != row.want {
			t.Errorf("Seal(%.40q): the row and the oracle differ", row.bytes)
		}
	}
}

// P9.2
func TestSealOnContents(t *testing.T) {
	for _, b := range contents() {
		if got, want := checksum.Seal(b), wantSeal(b); !slices.Equal(got, want) {
			t.Errorf("Seal(%.40q) gives %d bytes that end with %v, want %d that end with %v", b, len(got), got[max(0, len(got)-4):], len(want), want[len(b):])
		}
	}
}

// P9.2: whatever capacity is behind the bytes, it stays as it is, and the result has memory of its own.
func TestSealKeepsArgument(t *testing.T) {
	for _, length := range []int{0, 1, 2, 3, 4, 5, 9, 300} {
		for _, room := range []int{0, 1, 2, 3, 4, 5, 8, 100} {
			whole := []byte(strings.Repeat("#", length+room))
			sealed := checksum.Seal(whole[:length])
			if want := wantSeal([]byte(strings.Repeat("#", length))); !slices.Equal(sealed, want) {
				t.Errorf("%d bytes with room for %d are sealed as %q", length, room, sealed)
			}
			overwrite(sealed)
			if string(whole) != strings.Repeat("#", length+room) {
				t.Errorf("%d bytes with room for %d are %q now", length, room, whole)
			}
		}
	}
}

// overwrite fills b and the capacity behind it.
func overwrite(b []byte) {
	b = b[:cap(b)]
	for i := range b {
		b[i] = '!'
	}
}

// P9.2: a later change of the argument or of another result does not reach a result.
func TestSealResultsStay(t *testing.T) {
	for _, b := range [][]byte{nil, {}, make([]byte, 0, 16), []byte("a"), []byte("123456789")} {
		want := wantSeal(b)
		first, second := checksum.Seal(b), checksum.Seal(b)
		overwrite(second)
		overwrite(b)
		if !slices.Equal(first, want) {
			t.Errorf("the result is %q now, want %q", first, want)
		}
	}
}

// P9.2
func TestOpen(t *testing.T) {
	truncated, wrong := opened{"", api.ErrTruncated}, opened{"", api.ErrChecksum}
	rows := []struct {
		bytes string
		want  opened
	}{
		{"", truncated},
		{"\x00", truncated},
		{"\x00\x00", truncated},
		{"\x00\x00\x00", truncated},
		{"\xff\xff\xff", truncated},
		{"\x00\x00\x00\x00", opened{"", api.OK}},
		{"\x01\x00\x00\x00", wrong},
		{"\x00\x00\x00\x80", wrong},
		{"\xff\xff\xff\xff", wrong},
		{"\xc7\x4b\x67\x48", wrong},
		{"\x00\x00\x00\x00\x00", wrong},
		{"\x00\x51\x53\x7d\x52", opened{"\x00", api.OK}},
		{"\xff\x00\x00\x00\xff", opened{"\xff", api.OK}},
		{"\x01\x51\x53\x7d\x52", wrong},
		{"123456789\x83\x92\x06\xe3", opened{"123456789", api.OK}},
		{"\xff\xff\xff\xff\xff\xff\xff\xff", opened{"\xff\xff\xff\xff", api.OK}},
		{"\x00\x00\x00\x00\xc7\x4b\x67\x48", opened{"\x00\x00\x00\x00", api.OK}},
		{"\x00\x00\x00\x00\x00\x00\x00\x00", wrong},
		// The checksum has its highest byte first, lacks a byte, stands in front, is not inverted or has a byte behind it.
		{"123456789\xe3\x06\x92\x83", wrong},
		{"123456789\x83\x92\x06", wrong},
		{"\x83\x92\x06\xe3123456789", wrong},
		{"123456789\x7c\x6d\xf9\x1c", wrong},
		{"123456789\x83\x92\x06\xe3\x00", wrong},
		// The checksum is that of other bytes.
		{"123456780\x83\x92\x06\xe3", wrong},
		{"12345678\x83\x92\x06\xe3", wrong},
		{"0123456789\x83\x92\x06\xe3", wrong},
		{"987654321\x83\x92\x06\xe3", wrong},
	}
	for _, row := range rows {
		if got := open([]byte(row.bytes)); got != row.want {
			t.Errorf("Open(%q) = %q, error %d, want %q, error %d", row.bytes, got.content, got.err, row.want.content, row.want.err)
		}
		if want := wantOpen([]byte(row.bytes)); want != row.want {
			t.Errorf("Open(%q): the oracle says %q, error %d", row.bytes, want.content, want.err)
		}
	}
	if got := open(nil); got != truncated {
		t.Errorf("Open(nil) = %q, error %d", got.content, got.err)
	}
}

// P9.2: every buffer of fewer than three bytes and many of three, with and without bytes behind them.
func TestOpenOfFewBytes(t *testing.T) {
	check := func(b ...byte) {
		for _, behind := range []string{"", "\x00\x00\x00\x00", "\x51\x53\x7d\x52"} {
			whole := slices.Concat(b, []byte(behind))
			if got := open(whole[:len(b)]); got != (opened{"", api.ErrTruncated}) {
				t.Fatalf("Open(%v) = %q, error %d", b, got.content, got.err)
			}
		}
	}
	check()
	for first := range 256 {
		check(byte(first))
		for second := range 256 {
			check(byte(first), byte(second))
			check(byte(first), byte(second), byte(first*7+second))
		}
	}
}

// P9.2: buffers of four bytes hold the checksum alone, which is that of no byte.
func TestOpenOfFourBytes(t *testing.T) {
	source := rand.New(rand.NewSource(4))
	for i := range 100000 {
		b := make([]byte, 4)
		if i < 1024 {
			b[i/256] = byte(i)
		} else {
			source.Read(b)
		}
		if got, want := open(b), wantOpen(b); got != want {
			t.Fatalf("Open(%v) = %q, error %d, want error %d", b, got.content, got.err, want.err)
		}
	}
}

// P9.2: every byte, with its checksum and with every checksum that differs from it in one byte.
func TestOpenOfFiveBytes(t *testing.T) {
	for content := range 256 {
		sealed := wantSeal([]byte{byte(content)})
		for place := 1; place < 5; place++ {
			for value := range 256 {
				b := slices.Clone(sealed)
				b[place] = byte(value)
				want := opened{string(b[:1]), api.OK}
				if b[place] != sealed[place] {
					want = opened{"", api.ErrChecksum}
				}
				if got := open(b); got != want {
					t.Fatalf("Open(%v) = %q, error %d, want error %d", b, got.content, got.err, want.err)
				}
			}
		}
	}
}

// P9.2: buffers that are not sealed.
func TestOpenOnContents(t *testing.T) {
	for _, b := range contents() {
		if got, want := open(b), wantOpen(b); got != want {
			t.Errorf("Open(%.40q) gives %d bytes, error %d, want %d, error %d", b, len(got.content), got.err, len(want.content), want.err)
		}
	}
}

// P9.2: the argument stays as it is, and so does the room behind it; the result has memory of its own, and the bytes behind the length do not count.
func TestOpenKeepsArgument(t *testing.T) {
	for _, content := range []string{"", "a", "123456789", strings.Repeat("#", 300)} {
		sealed := wantSeal([]byte(content))
		for length := max(0, len(sealed)-6); length <= len(sealed); length++ {
			whole := append(slices.Clone(sealed), "behind"...)
			before := slices.Clone(whole)
			result, err := checksum.Open(whole[:length])
			if got, want := (opened{string(result), err}), wantOpen(sealed[:length]); got != want {
				t.Errorf("Open of %d bytes of %.40q gives %.40q, error %d", length, sealed, got.content, got.err)
			}
			overwrite(result)
			if !slices.Equal(whole, before) {
				t.Errorf("%d bytes of %.40q are %.40q now", length, before, whole)
			}
		}
	}
}

// P9.2: a later change of the argument or of another result does not reach a result.
func TestOpenResultsStay(t *testing.T) {
	sealed := wantSeal([]byte("123456789"))
	first, _ := checksum.Open(sealed)
	second, _ := checksum.Open(sealed)
	overwrite(second)
	overwrite(sealed)
	if string(first) != "123456789" {
		t.Errorf("the result is %q now", first)
	}
}

// P9.3
func TestOpenUndoesSeal(t *testing.T) {
	long := slices.Repeat([]byte("carom"), 300000)
	for _, b := range append(contents(), long) {
		once := checksum.Seal(b)
		if got := open(once); got != (opened{string(b), api.OK}) {
			t.Errorf("Open(Seal(%.40q)) gives %d bytes, error %d", b, len(got.content), got.err)
		}
		if got := open(checksum.Seal(once)); got != (opened{string(once), api.OK}) {
			t.Errorf("Open(Seal(Seal(%.40q))) gives %d bytes, error %d", b, len(got.content), got.err)
		}
	}
}

// invert returns b with bits inverted: those of the pattern, from the given bit on, each byte counted from its lowest bit. What the pattern has beyond the end is left out.
func invert(b []byte, at int, pattern uint64) []byte {
	b = slices.Clone(b)
	for i := range min(64, 8*len(b)-at) {
		if pattern>>i&1 == 1 {
			b[(at+i)/8] ^= 1 << ((at + i) % 8)
		}
	}
	return b
}

// checkDamage opens a sealed buffer with bits inverted.
func checkDamage(t *testing.T, sealed []byte, at int, pattern uint64) {
	t.Helper()
	if got := open(invert(sealed, at, pattern)); got != (opened{"", api.ErrChecksum}) {
		t.Fatalf("%d bytes with %#b inverted from bit %d on: %.40q, error %d", len(sealed), pattern, at, got.content, got.err)
	}
}

// P9.3: every single bit, of the content as well as of the checksum.
func TestSingleInvertedBits(t *testing.T) {
	for _, b := range contents() {
		if len(b) > 300 {
			continue
		}
		sealed := checksum.Seal(b)
		for at := range 8 * len(sealed) {
			checkDamage(t, sealed, at, 1)
		}
	}
}

// damaged are the contents whose sealed buffers are damaged in many ways.
var damaged = []string{"", "a", "\x00\x00", "\xff\xff\xff", "1234", "123456789", strings.Repeat("\x00", 33)}

// P9.3: from every bit on, all patterns of up to ten bits.
func TestFewInvertedBits(t *testing.T) {
	for _, content := range damaged {
		sealed := checksum.Seal([]byte(content))
		for at := range 8 * len(sealed) {
			for pattern := uint64(1); pattern < 1<<10; pattern += 2 {
				checkDamage(t, sealed, at, pattern)
			}
		}
	}
}

// P9.3: from every bit on, up to 32 bits: all of them, the outermost ones, every second one and random ones.
func TestManyInvertedBits(t *testing.T) {
	source := rand.New(rand.NewSource(5))
	for _, content := range damaged {
		sealed := checksum.Seal([]byte(content))
		for at := range 8 * len(sealed) {
			for width := 1; width <= 32; width++ {
				checkDamage(t, sealed, at, 1<<width-1)
				checkDamage(t, sealed, at, 1|1<<(width-1))
				checkDamage(t, sealed, at, (1<<width-1)&0x55555555)
				for range 20 {
					checkDamage(t, sealed, at, (1<<width-1)&source.Uint64()|1)
				}
			}
		}
	}
}

// P9.3: in a long buffer, at its beginning, in its middle and about its checksum.
func TestInvertedBitsOfLongBuffers(t *testing.T) {
	sealed := checksum.Seal(slices.Repeat([]byte("carom"), 4000))
	end := 8 * len(sealed)
	for _, from := range []int{0, end / 2, end - 64} {
		for at := from; at < from+64; at++ {
			for _, pattern := range []uint64{1, 3, 0xff, 0x80000001, 0xffffffff, 0x82f63b79, 0xedb88321} {
				checkDamage(t, sealed, at, pattern)
			}
		}
	}
}

// P9.2: inverting the 33 bits of the polynomial makes a sealed buffer of another content.
func TestInvertedPolynomial(t *testing.T) {
	pattern := uint64(0)
	for _, power := range powers {
		pattern |= 1 << (32 - power)
	}
	for _, content := range damaged {
		sealed := checksum.Seal([]byte(content))
		for at := range 8*len(sealed) - 32 {
			b := invert(sealed, at, pattern)
			if got := open(b); got != (opened{string(b[:len(content)]), api.OK}) {
				t.Fatalf("%q with the polynomial inverted from bit %d on: %q, error %d", sealed, at, got.content, got.err)
			}
			if string(b[:len(content)]) == content {
				t.Fatalf("%q stays as it is at bit %d", content, at)
			}
		}
	}
}
