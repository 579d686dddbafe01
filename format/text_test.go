package format_test

import (
	"fmt"
	"math/rand"
	"slices"
	"strings"
	"testing"

	"carom/api"
	"carom/format"
)

func lines(items ...string) list {
	return list{items, api.OK}
}

var faulty = list{nil, api.ErrSyntax}

func (l list) equals(other list) bool {
	return l.err == other.err && slices.Equal(l.items, other.items)
}

func (l list) String() string {
	return fmt.Sprintf("%q, error %d", l.items, l.err)
}

func splitFields(line string) list {
	fields, err := format.Fields(line)
	return list{fields, err}
}

func splitLines(text string) list {
	all, err := format.SplitLines(text)
	return list{all, err}
}

// checkLists does what check does, for the functions that return lists.
func checkLists(t *testing.T, call, oracle func(string) list, rows []pair[string, list], samples []string) {
	t.Helper()
	for _, r := range rows {
		if got := call(r.arg); !got.equals(r.want) {
			t.Errorf("%q gives %v, want %v", r.arg, got, r.want)
		}
		if want := oracle(r.arg); !want.equals(r.want) {
			t.Errorf("%q: the oracle says %v, the row %v", r.arg, want, r.want)
		}
	}
	for _, sample := range samples {
		if got, want := call(sample), oracle(sample); !got.equals(want) {
			t.Fatalf("%q gives %v, want %v", sample, got, want)
		}
	}
}

// P8.3
func TestIsIdentifier(t *testing.T) {
	check(t, format.IsIdentifier, wantIsIdentifier, []pair[string, bool]{
		{"a", true},
		{"z", true},
		{"m", true},
		{"a0", true},
		{"z9", true},
		{"a-", true},
		{"a--", true},
		{"body-1", true},
		{"contact-begin", true},
		{"zz-09-az", true},
		// 23, 24, 25 bytes and more.
		{"abcdefghijklmnopqrstuvw", true},
		{"abcdefghijklmnopqrstuvwx", true},
		{"abcdefghijklmnopqrstuvwxy", false},
		{"a-----------------------", true},
		{"a------------------------", false},
		{strings.Repeat("a", 24), true},
		{strings.Repeat("a", 25), false},
		{strings.Repeat("a", 26), false},
		{strings.Repeat("a", 256), false},
		{strings.Repeat("a", 280), false},
		{strings.Repeat("a", 1<<16+1), false},
		{strings.Repeat("a", 23) + "!", false},
		{strings.Repeat("a", 24) + "!", false},
		// The bytes count, not the characters.
		{strings.Repeat("\u00e9", 12), false},
		{"a" + strings.Repeat("\u00e9", 11), false},
		{"a" + strings.Repeat("\u00e9", 12), false},
		// The first byte is no letter.
		{"", false},
		{"0", false},
		{"9", false},
		{"1a", false},
		{"-", false},
		{"-a", false},
		{"--", false},
		{"0-", false},
		// Other bytes.
		{"A", false},
		{"Z", false},
		{"aB", false},
		{"Ab", false},
		{"aZ", false},
		{"a_b", false},
		{"_a", false},
		{"a b", false},
		{" a", false},
		{"a ", false},
		{" ", false},
		{"a.b", false},
		{"a\n", false},
		{"\na", false},
		{"a\nb", false},
		{"a\x00", false},
		{"a\xff", false},
		{"\x80", false},
		{"a\xe1", false},
		// Letters of other scripts, and characters whose last byte is that of a letter, a digit or the minus.
		{"\u00e9", false},
		{"a\u00e9", false},
		{"\u0161", false},
		{"a\u0161", false},
		{"a\u0131", false},
		{"a\u012d", false},
		{"a\u017a", false},
	}, append(words([]string{"a", "z", "5", "-", "A", " ", "\u0161"}, 5), mutated("abcdefghijkl-mnop01234567")...))
}

// P8.3: every byte in the first, a later and the last place of identifiers of several lengths.
func TestIsIdentifierBytes(t *testing.T) {
	for value := range 256 {
		letter := string([]byte{byte(value)})
		first := strings.Contains("abcdefghijklmnopqrstuvwxyz", letter)
		later := first || strings.Contains("0123456789-", letter)
		for _, row := range []pair[string, bool]{
			{letter, first},
			{letter + "a", first},
			{letter + strings.Repeat("a", 23), first},
			{letter + strings.Repeat("a", 24), false},
			{"a" + letter, later},
			{"b" + letter + "c", later},
			{"d0-" + letter + "-1", later},
			{strings.Repeat("a", 23) + letter, later},
			{strings.Repeat("a", 24) + letter, false},
		} {
			if got := format.IsIdentifier(row.arg); got != row.want {
				t.Errorf("IsIdentifier(%q) = %t", row.arg, got)
			}
		}
	}
}

// mutated returns the beginnings of a text, and the text and its longest beginning with every byte in every place.
func mutated(text string) []string {
	var all []string
	for size := range len(text) + 1 {
		all = append(all, text[:size])
	}
	for _, whole := range []string{text, text[:len(text)-1]} {
		for at := range len(whole) {
			for value := range 256 {
				all = append(all, whole[:at]+string([]byte{byte(value)})+whole[at+1:])
			}
		}
	}
	return all
}

// P8.3
func TestFields(t *testing.T) {
	long := strings.Repeat("x", 1000)
	checkLists(t, splitFields, wantFields, []pair[string, list]{
		{"", lines()},
		{"a", lines("a")},
		{"!", lines("!")},
		{"~", lines("~")},
		{"ab", lines("ab")},
		{"a b", lines("a", "b")},
		{"a a", lines("a", "a")},
		{"body 1 -65536 0", lines("body", "1", "-65536", "0")},
		{"! ~ \" \\ u", lines("!", "~", "\"", "\\", "u")},
		{"A,B;c 'd'", lines("A,B;c", "'d'")},
		{long + " " + long, lines(long, long)},
		{"1 2 3 4 5 6 7 8 9 10", lines("1", "2", "3", "4", "5", "6", "7", "8", "9", "10")},
		// A space first, last, twice in a row and alone.
		{" ", faulty},
		{"  ", faulty},
		{"   ", faulty},
		{" a", faulty},
		{"a ", faulty},
		{" a ", faulty},
		{"a  b", faulty},
		{"a   b", faulty},
		{"a b  c", faulty},
		{"a  b c", faulty},
		{" a b", faulty},
		{"a b ", faulty},
		{long + "  " + long, faulty},
		{long + " ", faulty},
		// Other bytes.
		{"\t", faulty},
		{"\n", faulty},
		{"a\n", faulty},
		{"\na", faulty},
		{"a\tb", faulty},
		{"a\rb", faulty},
		{"a b\n", faulty},
		{"a b\r", faulty},
		{"a \x00", faulty},
		{"a\x7f b", faulty},
		{"a\x80", faulty},
		{"\xff a", faulty},
		{long + "\x00", faulty},
		{"a b c d \x1f", faulty},
		// Characters of several bytes, some of them with the last byte of a field or of a space.
		{"\u00e9", faulty},
		{"a \u00e9", faulty},
		{"a\u00a0b", faulty},
		{"a\u2003b", faulty},
		{"a\u0120b", faulty},
		{"\u0121", faulty},
		{"\u0161 a", faulty},
		{"\ufffd", faulty},
		{"\U0001f600", faulty},
	}, append(words([]string{"a", "~", " ", "\n", "\x7f", "\x80", "\u0161"}, 6), mutated("ab 12 x -3")...))
}

// P8.3: every byte alone, in the first, a middle and the last place of a field.
func TestFieldsBytes(t *testing.T) {
	for value := range 256 {
		letter := string([]byte{byte(value)})
		visible := value >= 33 && value <= 126
		for _, row := range []pair[string, []string]{
			{letter, []string{letter}},
			{letter + letter, []string{letter + letter}},
			{letter + "a", []string{letter + "a"}},
			{"b" + letter, []string{"b" + letter}},
			{"c d" + letter + "e f", []string{"c", "d" + letter + "e", "f"}},
			{"g " + letter + " h", []string{"g", letter, "h"}},
			{letter + " i", []string{letter, "i"}},
			{"j " + letter, []string{"j", letter}},
		} {
			want := faulty
			if visible {
				want = lines(row.want...)
			}
			if row.arg == "c d e f" {
				want = lines("c", "d", "e", "f")
			}
			if got := splitFields(row.arg); !got.equals(want) {
				t.Errorf("Fields(%q) = %v, want %v", row.arg, got, want)
			}
		}
	}
}

// P8.3
func TestJoinFields(t *testing.T) {
	rows := []pair[[]string, string]{
		{nil, ""},
		{[]string{}, ""},
		{[]string{"a"}, "a"},
		{[]string{"a", "b"}, "a b"},
		{[]string{"a", "a", "a"}, "a a a"},
		{[]string{"body", "1", "-65536", "0"}, "body 1 -65536 0"},
		{[]string{"~", "!"}, "~ !"},
		{strings.Split(strings.Repeat("x", 1000), ""), strings.Repeat("x ", 999) + "x"},
		// What is no field is joined as well.
		{[]string{""}, ""},
		{[]string{"", ""}, " "},
		{[]string{"", "a"}, " a"},
		{[]string{"a", ""}, "a "},
		{[]string{"a", "", "b"}, "a  b"},
		{[]string{" "}, " "},
		{[]string{"a b", "c"}, "a b c"},
		{[]string{"\n", "\xff", "\u00e9"}, "\n \xff \u00e9"},
	}
	for _, r := range rows {
		before := slices.Clone(r.arg)
		if got := format.JoinFields(r.arg...); got != r.want {
			t.Errorf("JoinFields(%q) = %q, want %q", r.arg, got, r.want)
		}
		if got := wantJoinFields(r.arg); got != r.want {
			t.Errorf("JoinFields(%q): the oracle says %q, the row %q", r.arg, got, r.want)
		}
		if !slices.Equal(r.arg, before) {
			t.Errorf("JoinFields(%q) changed its fields to %q", before, r.arg)
		}
	}
}

// P8.3: the fields can be given one by one.
func TestJoinFieldsOneByOne(t *testing.T) {
	for _, row := range []struct{ got, want string }{
		{format.JoinFields(), ""},
		{format.JoinFields("wake"), "wake"},
		{format.JoinFields("step", "1"), "step 1"},
		{format.JoinFields("a", "b", "c"), "a b c"},
	} {
		if row.got != row.want {
			t.Errorf("got %q, want %q", row.got, row.want)
		}
	}
}

// P8.3: the fields behind the length of the slice stay out of the line and stay as they are.
func TestJoinFieldsCapacity(t *testing.T) {
	whole := []string{"a", "b", "c", "d"}
	if got := format.JoinFields(whole[:2]...); got != "a b" {
		t.Errorf("JoinFields = %q", got)
	}
	if !slices.Equal(whole, []string{"a", "b", "c", "d"}) {
		t.Errorf("the fields are %q now", whole)
	}
}

// P8.3
func TestSplitLines(t *testing.T) {
	long := strings.Repeat("x", 1000)
	checkLists(t, splitLines, wantSplitLines, []pair[string, list]{
		{"", lines()},
		{"\n", lines("")},
		{"\n\n", lines("", "")},
		{"\n\n\n", lines("", "", "")},
		{"a\n", lines("a")},
		{"a\nb\n", lines("a", "b")},
		{"a\na\n", lines("a", "a")},
		{"\na\n", lines("", "a")},
		{"a\n\n", lines("a", "")},
		{"a\n\nb\n", lines("a", "", "b")},
		{"frame\nwake 1\n", lines("frame", "wake 1")},
		{long + "\n" + long + "\n", lines(long, long)},
		// A line is whatever is between two line feeds.
		{" \n", lines(" ")},
		{" a  b \n\t\n", lines(" a  b ", "\t")},
		{"a\r\n", lines("a\r")},
		{"\r\n", lines("\r")},
		{"\r\n\r\n", lines("\r", "\r")},
		{"a\rb\n", lines("a\rb")},
		{"\r\ra\n\r\n", lines("\r\ra", "\r")},
		{"\x00\n\xff\n", lines("\x00", "\xff")},
		{"\u00e9\n\u2028\n\v\f\u0085\n", lines("\u00e9", "\u2028", "\v\f\u0085")},
		{"\u010a\n", lines("\u010a")},
		// The last line does not end with a line feed.
		{"a", faulty},
		{" ", faulty},
		{"\r", faulty},
		{"\n\r", faulty},
		{"a\nb", faulty},
		{"a\n\nb", faulty},
		{"\na", faulty},
		{"\n ", faulty},
		{"a\r", faulty},
		{"\n\n\x00", faulty},
		{"a\n\xff", faulty},
		{"\u010a", faulty},
		{"a\n\u2028", faulty},
		{long, faulty},
		{long + "\n" + long, faulty},
	}, append(words([]string{"a", " ", "\n", "\r", "\x00", "\u010a"}, 6), mutated("a\nbc\n\nd e\n")...))
}

// P8.3: no length of the text or of its lines and no number of them is too great.
func TestSplitLinesLong(t *testing.T) {
	for _, size := range []int{1, 255, 256, 4096, api.MaxText, api.MaxText + 1} {
		if got := splitLines(strings.Repeat("x", size) + "\n"); got.err != api.OK || len(got.items) != 1 || len(got.items[0]) != size {
			t.Errorf("a line of %d bytes gives %d lines, error %d", size, len(got.items), got.err)
		}
		if got := splitLines(strings.Repeat("\n", size)); got.err != api.OK || len(got.items) != size || slices.Max(got.items) != "" {
			t.Errorf("%d empty lines give %d lines, error %d", size, len(got.items), got.err)
		}
	}
}

// P8.3: the list is empty wherever there is an error.
func TestListsBesideErrors(t *testing.T) {
	for name, call := range map[string]func(string) list{"Fields": splitFields, "SplitLines": splitLines} {
		met := map[api.Errno]int{}
		for _, text := range words([]string{"a", " ", "\n", "\r", "\x80"}, 6) {
			got := call(text)
			met[got.err]++
			if got.err != api.OK && len(got.items) > 0 {
				t.Errorf("%s(%q) = %v", name, text, got)
			}
		}
		if len(met) != 2 || met[api.OK] == 0 || met[api.ErrSyntax] == 0 {
			t.Errorf("%s: the outcomes are %v", name, met)
		}
	}
}

// P8.3: a list is the caller's own: what is done to it shows in no other one.
func TestListsAreNew(t *testing.T) {
	for name, call := range map[string]func(string) list{"a b c": splitFields, "a\nb\nc\n": splitLines} {
		first, second := call(name).items, call(name).items
		changed := append(first[:1], "x", "y", "z")
		clear(changed)
		if !slices.Equal(second, []string{"a", "b", "c"}) || !call(name).equals(lines("a", "b", "c")) {
			t.Errorf("%q gives %q, and then %v", name, second, call(name))
		}
	}
}

// P8.4: joining the fields of a line gives the line again.
func TestJoinSplitFields(t *testing.T) {
	accepted := 0
	for _, line := range append(words([]string{"a", "~", " ", "7"}, 7), mutated("ab 12 x -3")...) {
		if got := splitFields(line); got.err == api.OK {
			accepted++
			if joined := format.JoinFields(got.items...); joined != line {
				t.Fatalf("the fields of %q are joined as %q", line, joined)
			}
		}
	}
	if accepted < 5000 {
		t.Errorf("only %d lines are accepted", accepted)
	}
}

// P8.4: the fields of joined fields are the fields again, and the lines of joined lines are the lines.
func TestSplitJoined(t *testing.T) {
	source := rand.New(rand.NewSource(1))
	for range 5000 {
		fields, text := make([]string, source.Intn(9)), ""
		for i := range fields {
			for range 1 + source.Intn(12) {
				fields[i] += string(rune(33 + source.Intn(94)))
			}
			text += fields[i] + "\n"
		}
		if got := splitFields(format.JoinFields(fields...)); !got.equals(lines(fields...)) {
			t.Fatalf("%q, joined, give %v", fields, got)
		}
		if got := splitLines(text); !got.equals(lines(fields...)) {
			t.Fatalf("%q gives %v", text, got)
		}
	}
}
