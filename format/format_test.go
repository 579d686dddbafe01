package format_test

import (
	"math"
	"math/big"
	"strings"
	"testing"

	"carom/api"
	"carom/format"
)

const (
	least    = math.MinInt
	greatest = math.MaxInt
)

// pair is a row of a table: an argument and the value that the chapter asks for.
type pair[A, R any] struct {
	arg  A
	want R
}

var (
	syntax = answer{0, api.ErrSyntax}
	beyond = answer{0, api.ErrRange}
)

func good(n int) answer {
	return answer{n, api.OK}
}

// check compares call with the rows and, on the samples, with oracle, which is held against the rows as well.
func check[A any, R comparable](t *testing.T, call, oracle func(A) R, rows []pair[A, R], samples []A) {
	t.Helper()
	for _, r := range rows {
		if got := call(r.arg); got != r.want {
			t.Errorf("%#v gives %#v, want %#v", r.arg, got, r.want)
		}
		if want := oracle(r.arg); want != r.want {
			t.Errorf("%#v: the oracle says %#v, the row %#v", r.arg, want, r.want)
		}
	}
	for _, sample := range samples {
		if got, want := call(sample), oracle(sample); got != want {
			t.Fatalf("%#v gives %#v, want %#v", sample, got, want)
		}
	}
}

func parseInt(s string) answer {
	n, err := format.ParseInt(s)
	return answer{n, err}
}

func parseFixed(s string) answer {
	n, err := format.ParseFixed(s)
	return answer{n, err}
}

func wantFormatInt(n int) string {
	return big.NewInt(int64(n)).String()
}

func wantFormatFixed(x int) string {
	return wantFixed(big.NewInt(int64(x)))
}

// P8.1
func TestFormatInt(t *testing.T) {
	check(t, format.FormatInt, wantFormatInt, []pair[int, string]{
		{0, "0"},
		{1, "1"},
		{-1, "-1"},
		{7, "7"},
		{-7, "-7"},
		{9, "9"},
		{-9, "-9"},
		{10, "10"},
		{-10, "-10"},
		{11, "11"},
		{42, "42"},
		{-42, "-42"},
		{99, "99"},
		{-99, "-99"},
		{100, "100"},
		{-100, "-100"},
		{101, "101"},
		{-101, "-101"},
		{1020304, "1020304"},
		{-1020304, "-1020304"},
		{999999999999999999, "999999999999999999"},
		{1000000000000000000, "1000000000000000000"},
		{-1000000000000000001, "-1000000000000000001"},
		{1234567890123456789, "1234567890123456789"},
		{-1234567890123456789, "-1234567890123456789"},
		{1 << 62, "4611686018427387904"},
		{-1 << 62, "-4611686018427387904"},
		{greatest - 1, "9223372036854775806"},
		{greatest, "9223372036854775807"},
		{least + 1, "-9223372036854775807"},
		{least, "-9223372036854775808"},
		// A multiple of One has no u here.
		{api.One, "65536"},
		{-api.One, "-65536"},
	}, ints())
}

// P8.1: powers of ten and their neighbours.
func TestFormatIntPowersOfTen(t *testing.T) {
	power := 1
	for digits := range 19 {
		zeros, nines := strings.Repeat("0", digits), strings.Repeat("9", digits)
		texts := []pair[int, string]{{power, "1" + zeros}, {-power, "-1" + zeros}}
		if digits > 0 {
			above := "1" + zeros[1:] + "1"
			texts = append(texts, pair[int, string]{power + 1, above}, pair[int, string]{-power - 1, "-" + above},
				pair[int, string]{power - 1, nines}, pair[int, string]{1 - power, "-" + nines})
		}
		check(t, format.FormatInt, wantFormatInt, texts, nil)
		for _, text := range texts {
			if want := limited(big.NewInt(int64(text.arg)), big.NewInt(1<<62)); parseInt(text.want) != want {
				t.Errorf("ParseInt(%q) = %v, want %v", text.want, parseInt(text.want), want)
			}
		}
		power *= 10
	}
}

// P8.1
func TestParseInt(t *testing.T) {
	zeros, nines := strings.Repeat("0", 300), strings.Repeat("9", 300)
	check(t, parseInt, wantParseInt, []pair[string, answer]{
		{"0", good(0)},
		{"1", good(1)},
		{"-1", good(-1)},
		{"9", good(9)},
		{"-9", good(-9)},
		{"10", good(10)},
		{"-10", good(-10)},
		{"42", good(42)},
		{"100200300", good(100200300)},
		{"-100200300", good(-100200300)},
		{"65536", good(api.One)},
		{"-131072", good(-2 * api.One)},
		{"1234567890123456789", good(1234567890123456789)},
		{"-1234567890123456789", good(-1234567890123456789)},
		{"4000000000000000000", good(4000000000000000000)},
		// The ends of the range, and beyond them.
		{"4611686018427387903", good(1<<62 - 1)},
		{"4611686018427387904", good(1 << 62)},
		{"4611686018427387905", beyond},
		{"4611686018427387906", beyond},
		{"4611686018427387910", beyond},
		{"4611686018427387914", beyond},
		{"-4611686018427387903", good(1 - 1<<62)},
		{"-4611686018427387904", good(-1 << 62)},
		{"-4611686018427387905", beyond},
		{"-4611686018427387906", beyond},
		{"5000000000000000000", beyond},
		{"-5000000000000000000", beyond},
		{"9223372036854775806", beyond},
		{"9223372036854775807", beyond},
		{"9223372036854775808", beyond},
		{"9223372036854775809", beyond},
		{"-9223372036854775807", beyond},
		{"-9223372036854775808", beyond},
		{"-9223372036854775809", beyond},
		{"9999999999999999999", beyond},
		{"10000000000000000000", beyond},
		// Modulo 2^64 these are small.
		{"18446744073709551615", beyond},
		{"18446744073709551616", beyond},
		{"18446744073709551617", beyond},
		{"-18446744073709551616", beyond},
		{"-18446744073709551617", beyond},
		{"46116860184273879040", beyond},
		{"340282366920938463463374607431768211456", beyond},
		{"1" + zeros, beyond},
		{"-1" + zeros, beyond},
		{nines, beyond},
		{"-" + nines, beyond},
		{"1" + zeros + "1", beyond},
		{strings.Repeat("1", 1<<17), beyond},
		// The form is wrong, whatever the size.
		{"", syntax},
		{"-", syntax},
		{"--", syntax},
		{"--1", syntax},
		{"-0", syntax},
		{"+0", syntax},
		{"+1", syntax},
		{"-+1", syntax},
		{"+-1", syntax},
		{"+4611686018427387905", syntax},
		{"00", syntax},
		{"01", syntax},
		{"-00", syntax},
		{"-01", syntax},
		{"007", syntax},
		{"0" + nines, syntax},
		{"-0" + nines, syntax},
		{zeros, syntax},
		{"-" + zeros, syntax},
		{zeros + "1", syntax},
		{nines + "x", syntax},
		{"x" + nines, syntax},
		{nines + "-" + nines, syntax},
		{nines + "u", syntax},
		{"-" + nines + " ", syntax},
		{" 1", syntax},
		{"1 ", syntax},
		{"1 2", syntax},
		{" ", syntax},
		{"- 1", syntax},
		{"1-", syntax},
		{"1-2", syntax},
		{"0-", syntax},
		{"1u", syntax},
		{"u", syntax},
		{"1.0", syntax},
		{"1e3", syntax},
		{"1_000", syntax},
		{"0x10", syntax},
		{"0b1", syntax},
		{"a", syntax},
		{"1\n", syntax},
		{"\t1", syntax},
		{"1\x00", syntax},
		{"\x00", syntax},
		{"\xff", syntax},
		{"1\x80", syntax},
		{"\xb1", syntax},
		// Digits of other scripts, and characters whose last byte is that of a digit or of the minus.
		{"\u0661", syntax},
		{"1\uff12", syntax},
		{"\u0131", syntax},
		{"2\u0131", syntax},
		{"\u0130", syntax},
		{"\u012d1", syntax},
		{"\u22121", syntax},
	}, numberTexts())
}

// P8.1: every byte in the first, a middle and the last place.
func TestParseIntBytes(t *testing.T) {
	for value := range 256 {
		letter := string([]byte{byte(value)})
		for _, text := range []string{letter, letter + "12", "3" + letter + "4", "-5" + letter + "6", "78" + letter, "-9" + letter} {
			if got, want := parseInt(text), wantParseInt(text); got != want {
				t.Errorf("ParseInt(%q) = %v, want %v", text, got, want)
			}
			if known := strings.Contains("-0123456789", letter); !known && parseInt(text) != syntax {
				t.Errorf("ParseInt(%q) = %v", text, parseInt(text))
			}
		}
	}
}

// P8.2
func TestFormatFixed(t *testing.T) {
	check(t, format.FormatFixed, wantFormatFixed, []pair[int, string]{
		{0, "0"},
		{1, "1"},
		{-1, "-1"},
		{api.One - 1, "65535"},
		{api.One, "1u"},
		{api.One + 1, "65537"},
		{-api.One - 1, "-65537"},
		{-api.One, "-1u"},
		{-api.One + 1, "-65535"},
		{api.One / 2, "32768"},
		{-api.One / 2, "-32768"},
		{98304, "98304"},
		{-98304, "-98304"},
		{2*api.One - 1, "131071"},
		{2 * api.One, "2u"},
		{2*api.One + 1, "131073"},
		{-2 * api.One, "-2u"},
		{3 * api.One, "3u"},
		{-3 * api.One, "-3u"},
		{10 * api.One, "10u"},
		{-100 * api.One, "-100u"},
		{api.One * api.One, "65536u"},
		{-api.One * api.One, "-65536u"},
		{65535 * api.One, "65535u"},
		{8191 * api.One, "8191u"},
		{-8191 * api.One, "-8191u"},
		// The number need not be saturated.
		{api.MaxValue, "536870911"},
		{-api.MaxValue, "-536870911"},
		{api.MaxValue + 1, "8192u"},
		{-api.MaxValue - 1, "-8192u"},
		{1 << 62, "70368744177664u"},
		{greatest, "9223372036854775807"},
		{greatest - api.One + 1, "140737488355327u"},
		{greatest - api.One, "9223372036854710271"},
		{least, "-140737488355328u"},
		{least + 1, "-9223372036854775807"},
		{least + api.One, "-140737488355327u"},
	}, ints())
}

// P8.2
func TestParseFixed(t *testing.T) {
	zeros, nines := strings.Repeat("0", 300), strings.Repeat("9", 300)
	check(t, parseFixed, wantParseFixed, []pair[string, answer]{
		{"0", good(0)},
		{"1", good(1)},
		{"-1", good(-1)},
		{"1u", good(api.One)},
		{"-1u", good(-api.One)},
		{"98304", good(98304)},
		{"-98304", good(-98304)},
		{"32768", good(api.One / 2)},
		{"65535", good(api.One - 1)},
		{"65537", good(api.One + 1)},
		{"-65535", good(1 - api.One)},
		{"-65537", good(-1 - api.One)},
		{"10u", good(10 * api.One)},
		{"-100u", good(-100 * api.One)},
		// A nonzero multiple of One without its u.
		{"65536", syntax},
		{"-65536", syntax},
		{"131072", syntax},
		{"-131072", syntax},
		{"196608", syntax},
		{"655360", syntax},
		{"536805376", syntax},
		{"-536805376", syntax},
		{"536870912", syntax},
		{"-536870912", syntax},
		{"4294967296", syntax},
		{"-4294967296", syntax},
		{"4611686018427387904", syntax},
		{"9223372036854775808", syntax},
		{"-9223372036854775808", syntax},
		{"18446744073709551616", syntax},
		{"184467440737095516160000", syntax},
		{"-184467440737095516160000", syntax},
		{"10000000000000000", syntax},
		{"-30000000000000000", syntax},
		{"1" + zeros, syntax},
		{"-7" + zeros, syntax},
		{nines + "0000000000000000", syntax},
		{nines + "65536", beyond},
		// Multiples of less than One.
		{"1000000000000000", beyond},
		{"9223372036854808576", beyond},
		{"18446744073709584384", beyond},
		// The ends of the range, and beyond them.
		{"536805375", good(8191*api.One - 1)},
		{"536805377", good(8191*api.One + 1)},
		{"536870910", good(api.MaxValue - 1)},
		{"536870911", good(api.MaxValue)},
		{"536870913", beyond},
		{"536870914", beyond},
		{"-536870910", good(1 - api.MaxValue)},
		{"-536870911", good(-api.MaxValue)},
		{"-536870913", beyond},
		{"8190u", good(8190 * api.One)},
		{"8191u", good(8191 * api.One)},
		{"8192u", beyond},
		{"8193u", beyond},
		{"-8190u", good(-8190 * api.One)},
		{"-8191u", good(-8191 * api.One)},
		{"-8192u", beyond},
		{"-8193u", beyond},
		{"65536u", beyond},
		{"-65536u", beyond},
		{"536870911u", beyond},
		{"4611686018427387903", beyond},
		{"4611686018427387905", beyond},
		{"-4611686018427387905", beyond},
		{"9223372036854775807", beyond},
		{"-9223372036854775809", beyond},
		// Modulo 2^64 these are small, or become so when they are multiplied by One.
		{"18446744073709551617", beyond},
		{"-18446744073709551617", beyond},
		{"184467440737095516161", beyond},
		{"140737488355328u", beyond},
		{"281474976710656u", beyond},
		{"281474976710657u", beyond},
		{"-281474976710657u", beyond},
		{"4611686018427387904u", beyond},
		{"4611686018427387905u", beyond},
		{"18446744073709551616u", beyond},
		{"18446744073709551617u", beyond},
		{nines, beyond},
		{"-" + nines, beyond},
		{nines + "u", beyond},
		{"-" + nines + "u", beyond},
		{"1" + zeros + "u", beyond},
		{"-1" + zeros + "u", beyond},
		{"1" + zeros + "1", beyond},
		{strings.Repeat("1", 1<<17), beyond},
		{strings.Repeat("1", 1<<17) + "u", beyond},
		// Zero has no u.
		{"u", syntax},
		{"-u", syntax},
		{"0u", syntax},
		{"-0u", syntax},
		{"00u", syntax},
		{"+0u", syntax},
		// The u is not the last byte or not the only one.
		{"uu", syntax},
		{"1uu", syntax},
		{"0uu", syntax},
		{"u1", syntax},
		{"-u1", syntax},
		{"u-1", syntax},
		{"1u2", syntax},
		{"1u2u", syntax},
		{"1u0", syntax},
		{"u1u", syntax},
		{"1u ", syntax},
		{"1 u", syntax},
		{"1u\n", syntax},
		{"1U", syntax},
		{"1v", syntax},
		{"1t", syntax},
		{nines + "uu", syntax},
		{"u" + nines, syntax},
		// The integer has not the form, whatever its size.
		{"", syntax},
		{"-", syntax},
		{"-0", syntax},
		{"+1", syntax},
		{"+1u", syntax},
		{"00", syntax},
		{"01", syntax},
		{"01u", syntax},
		{"-01u", syntax},
		{"065537", syntax},
		{" 1u", syntax},
		{"--1u", syntax},
		{"1-u", syntax},
		{"1.5", syntax},
		{"1.5u", syntax},
		{"a", syntax},
		{"au", syntax},
		{"1au", syntax},
		{"0" + nines, syntax},
		{"0" + nines + "u", syntax},
		{nines + "x", syntax},
		{nines + "xu", syntax},
		{zeros + "u", syntax},
		{"\xff", syntax},
		{"\xffu", syntax},
		{"1\x80u", syntax},
		{"1u\x80", syntax},
		{"1\u0175", syntax},
		{"\u0131u", syntax},
		{"1\u03bc", syntax},
	}, numberTexts())
}

// P8.2: every byte in the first, a middle and the last place, with and without u.
func TestParseFixedBytes(t *testing.T) {
	for value := range 256 {
		letter := string([]byte{byte(value)})
		for _, text := range []string{letter, letter + "u", letter + "12", letter + "1u", "3" + letter + "4", "-5" + letter + "u", "78" + letter, "7u" + letter} {
			if got, want := parseFixed(text), wantParseFixed(text); got != want {
				t.Errorf("ParseFixed(%q) = %v, want %v", text, got, want)
			}
			if known := strings.Contains("-0123456789u", letter); !known && parseFixed(text) != syntax {
				t.Errorf("ParseFixed(%q) = %v", text, parseFixed(text))
			}
		}
	}
}

// numberTexts are short strings, texts of integers with and without u, and the same with one byte lacking, doubled or changed.
func numberTexts() []string {
	all := words([]string{"-", "0", "1", "6", "9", "u", " ", "\xff"}, 5)
	for _, x := range integers() {
		all = append(all, x.String(), x.String()+"u", wantFixed(x))
	}
	for _, text := range []string{"0", "-7", "12u", "65536", "-65537", "8191u", "536870911", "4611686018427387904", "-4611686018427387905u", "1844674407370955161600000"} {
		for at := range len(text) {
			before, letter, behind := text[:at], text[at:at+1], text[at+1:]
			all = append(all, before+behind, before+letter+letter+behind)
			for _, other := range []string{"-", "+", "/", "0", "3", "9", ":", "u", " ", "\n", "\x00", "\xb0", "\u0130"} {
				all = append(all, before+other+behind, before+other+letter+behind)
			}
		}
	}
	return all
}

// P8.1, P8.2: zero is the other result wherever there is an error, and all three outcomes are met.
func TestNumbersBesideErrors(t *testing.T) {
	for name, call := range map[string]func(string) answer{"ParseInt": parseInt, "ParseFixed": parseFixed} {
		met := map[api.Errno]int{}
		for _, text := range numberTexts() {
			got := call(text)
			met[got.err]++
			if got.err != api.OK && got.n != 0 {
				t.Fatalf("%s(%q) = %v", name, text, got)
			}
		}
		if len(met) != 3 || met[api.OK] < 1000 || met[api.ErrSyntax] < 1000 || met[api.ErrRange] < 1000 {
			t.Errorf("%s: the outcomes are %v", name, met)
		}
	}
}

// P8.4: formatting a parsed number gives the text again.
func TestFormatParsed(t *testing.T) {
	for _, text := range numberTexts() {
		if got := parseInt(text); got.err == api.OK && format.FormatInt(got.n) != text {
			t.Fatalf("ParseInt(%q) = %d, which is formatted as %q", text, got.n, format.FormatInt(got.n))
		}
		if got := parseFixed(text); got.err == api.OK && format.FormatFixed(got.n) != text {
			t.Fatalf("ParseFixed(%q) = %d, which is formatted as %q", text, got.n, format.FormatFixed(got.n))
		}
	}
}

// P8.4: parsing a formatted number gives the number again, or tells that it is out of range.
func TestParseFormatted(t *testing.T) {
	for _, n := range ints() {
		if got, want := parseInt(format.FormatInt(n)), limited(big.NewInt(int64(n)), big.NewInt(1<<62)); got != want {
			t.Fatalf("%d, formatted and parsed, is %v", n, got)
		}
		if got, want := parseFixed(format.FormatFixed(n)), limited(big.NewInt(int64(n)), big.NewInt(api.MaxValue)); got != want {
			t.Fatalf("%d, formatted and parsed as a fixed-point number, is %v", n, got)
		}
	}
}

// P8.2: example 1 of the chapter.
func TestExample(t *testing.T) {
	if got := format.FormatFixed(api.One); got != "1u" {
		t.Errorf("FormatFixed(One) = %q", got)
	}
	if got := format.FormatFixed(98304); got != "98304" {
		t.Errorf("FormatFixed(98304) = %q", got)
	}
	if n, err := format.ParseFixed("65536"); n != 0 || err != api.ErrSyntax {
		t.Errorf("ParseFixed(65536) = %d, error %d", n, err)
	}
	if got := format.FormatFixed(0); got != "0" {
		t.Errorf("FormatFixed(0) = %q", got)
	}
}
