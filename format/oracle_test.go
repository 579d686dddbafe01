package format_test

import (
	"math/big"
	"math/rand"
	"regexp"
	"strings"

	"carom/api"
)

// The functions of this file work the promised values out in other ways than the package: numbers as integers of any size, whose texts are formatted again and compared, and the forms of texts by regular expressions.

// answer is what a Parse function returns.
type answer struct {
	n   int
	err api.Errno
}

// list is what Fields or SplitLines returns.
type list struct {
	items []string
	err   api.Errno
}

// wantFixed is the text of the fixed-point number x.
func wantFixed(x *big.Int) string {
	units, rest := new(big.Int).QuoRem(x, big.NewInt(api.One), new(big.Int))
	if x.Sign() != 0 && rest.Sign() == 0 {
		return units.String() + "u"
	}
	return x.String()
}

// decimalOf returns the integer whose text is s, or nil if there is none.
func decimalOf(s string) *big.Int {
	x, ok := new(big.Int).SetString(s, 10)
	if !ok || x.String() != s {
		return nil
	}
	return x
}

// fixedOf returns the fixed-point number whose text is s, or nil if there is none.
func fixedOf(s string) *big.Int {
	units, rest := decimalOf(strings.ReplaceAll(s, "u", "")), decimalOf(s)
	if units == nil {
		return nil
	}
	for _, x := range []*big.Int{new(big.Int).Mul(units, big.NewInt(api.One)), rest} {
		if x != nil && wantFixed(x) == s {
			return x
		}
	}
	return nil
}

// limited returns the answer for the number x of a text, or for none.
func limited(x, limit *big.Int) answer {
	if x == nil {
		return answer{0, api.ErrSyntax}
	}
	if x.CmpAbs(limit) > 0 {
		return answer{0, api.ErrRange}
	}
	return answer{int(x.Int64()), api.OK}
}

func wantParseInt(s string) answer {
	return limited(decimalOf(s), big.NewInt(1<<62))
}

func wantParseFixed(s string) answer {
	return limited(fixedOf(s), big.NewInt(api.MaxValue))
}

var (
	identifier = regexp.MustCompile(`\A[a-z][-a-z0-9]{0,23}\z`)
	fieldsLine = regexp.MustCompile(`\A([!-~]+( [!-~]+)*)?\z`)
	field      = regexp.MustCompile(`[!-~]+`)
)

func wantIsIdentifier(s string) bool {
	return identifier.MatchString(s)
}

func wantFields(line string) list {
	if !fieldsLine.MatchString(line) {
		return list{nil, api.ErrSyntax}
	}
	return list{field.FindAllString(line, -1), api.OK}
}

func wantJoinFields(fields []string) string {
	line := ""
	for i, f := range fields {
		if i > 0 {
			line += " "
		}
		line += f
	}
	return line
}

func wantSplitLines(text string) list {
	var lines []string
	line := ""
	for i := range len(text) {
		if text[i] == '\n' {
			lines, line = append(lines, line), ""
		} else {
			line += text[i : i+1]
		}
	}
	if line != "" {
		return list{nil, api.ErrSyntax}
	}
	return list{lines, api.OK}
}

// words returns all strings of at most size of the given letters.
func words(letters []string, size int) []string {
	all, longest := []string{""}, []string{""}
	for range size {
		var longer []string
		for _, word := range longest {
			for _, letter := range letters {
				longer = append(longer, word+letter)
			}
		}
		all, longest = append(all, longer...), longer
	}
	return all
}

// integers are integers of all sizes with both signs: small ones, powers of two and of ten, their multiples and neighbours, and random ones.
func integers() []*big.Int {
	var all []*big.Int
	add := func(x *big.Int) {
		all = append(all, x, new(big.Int).Neg(x))
	}
	about := func(x *big.Int) {
		for distance := int64(-2); distance <= 2; distance++ {
			add(new(big.Int).Add(x, big.NewInt(distance)))
		}
	}
	for n := range int64(3000) {
		add(big.NewInt(n))
	}
	for n := range int64(8400) {
		about(big.NewInt(n * api.One))
	}
	for exponent := int64(0); exponent < 400; exponent += 1 + exponent/40 {
		for _, factor := range []int64{1, 3, 5, 9, api.One / 2, api.One, 3 * api.One} {
			for _, base := range []int64{2, 10} {
				power := new(big.Int).Exp(big.NewInt(base), big.NewInt(exponent), nil)
				about(power.Mul(power, big.NewInt(factor)))
			}
		}
	}
	for _, base := range []int64{api.MaxValue, api.MaxValue + 1, api.WorldLimit, 1 << 62} {
		for distance := int64(-100); distance <= 100; distance++ {
			add(new(big.Int).Add(big.NewInt(base), big.NewInt(distance)))
		}
	}
	source := rand.New(rand.NewSource(1))
	for size := uint(0); size < 1200; size += 1 + size/80 {
		limit := new(big.Int).Lsh(big.NewInt(1), size+1)
		for range 5 {
			x := new(big.Int).Rand(source, limit)
			add(x)
			add(new(big.Int).Lsh(x, 15))
			add(new(big.Int).Lsh(x, 16))
		}
	}
	return all
}

// ints are those of the integers that fit into an int, and the ends of its range.
func ints() []int {
	var all []int
	for _, x := range integers() {
		if x.IsInt64() {
			all = append(all, int(x.Int64()))
		}
	}
	for distance := range 100 {
		all = append(all, least+distance, greatest-distance)
	}
	return all
}
