package deriv_test

import (
	"fmt"
	"math"
	"slices"
	"strings"
	"testing"

	"bosket/api"
	"bosket/byteset"
	"bosket/deriv"
	"bosket/rex"
)

// P5.1: Empty.

func TestEmptyOfEachKind(t *testing.T) {
	for _, c := range []struct {
		s    string
		want bool
	}{
		{"~", true},
		{"a", false}, {".", false}, {"[a-c]", false}, {`\x00`, false},
		{"ab", false}, {"a~", false}, {"~a", false}, {"a*b", false}, {"ab*", false}, {"~~", true}, {"a*b*", true}, {"a?~", true},
		{"a|b", false}, {"a|~", true}, {"~|a", true}, {"~|~", true}, {"a*|b", true}, {"a|b*", true}, {"a|b+", false},
		{"a*", true}, {"~*", true}, {"(ab)*", true}, {"a+*", true},
		{"a+", false}, {"~+", true}, {"a*+", true}, {"a?+", true}, {"(ab)+", false}, {"(a|~)+", true}, {"a++", false},
		{"a?", true}, {"~?", true}, {"(ab)?", true}, {"a+?", true},
		{"(a*|b)(c?d*)", true}, {"(a*|b)(c?d+)", false}, {"a(b|c)*d?", false},
	} {
		if got := deriv.Empty(parsed(t, c.s)); got != c.want {
			t.Errorf("Empty(%s): %v", c.s, got)
		}
	}
}

func TestEmptyOfTheBiggestOnes(t *testing.T) {
	word := rex.Word(strings.Repeat("a", 200))
	for _, c := range []struct {
		r    api.Regex
		want bool
	}{
		{stars(400), true},
		{append(stars(399), plus), true},
		{append(api.Regex{a}, slices.Repeat(api.Regex{plus}, 399)...), false},
		{append(slices.Repeat(api.Regex{none}, 200), slices.Repeat(api.Regex{cat}, 199)...), true},
		{append(slices.Concat(slices.Repeat(api.Regex{none}, 199), api.Regex{a}), slices.Repeat(api.Regex{cat}, 199)...), false},
		{append(slices.Concat(slices.Repeat(api.Regex{a}, 199), api.Regex{none}), slices.Repeat(api.Regex{alt}, 199)...), true},
		{word, false},
		{append(slices.Clone(word), opt), true},
	} {
		if e := rex.Check(c.r); e != api.OK {
			t.Fatalf("%s: %d", brief(c.r), e)
		}
		if got := deriv.Empty(c.r); got != c.want {
			t.Errorf("Empty(%s): %v", brief(c.r), got)
		}
	}
}

// P5.1: First.

func TestFirstOfEachKind(t *testing.T) {
	for _, c := range []struct {
		s     string
		bytes string
	}{
		{"~", ""}, {"a", "a"}, {"[a-c]", "abc"}, {`\x00`, "\x00"}, {`\xff`, "\xff"},
		{"ab", "a"}, {"~a", "a"}, {"a~", "a"}, {"a*b", "ab"}, {"a?b?c", "abc"}, {"a+b", "a"}, {"~~", ""}, {"~+b", "b"}, {"(a|~)b", "ab"}, {"a*b*", "ab"},
		{"a|b", "ab"}, {"a|~", "a"}, {"~|b", "b"}, {"ax|by", "ab"}, {"~|~", ""},
		{"a*", "a"}, {"~*", ""}, {"(ab)*", "a"}, {"(a?b)*", "ab"},
		{"a+", "a"}, {"~+", ""}, {"(ab)+", "a"}, {"(a*b)+c", "ab"}, {"(a*b*)+c", "abc"},
		{"a?", "a"}, {"~?", ""}, {"(a?b)?", "ab"},
		{"a(b|c)*d?", "a"}, {"(b|c)*d?", "bcd"}, {"(b|c)*d", "bcd"}, {"(b|c)+d", "bc"},
	} {
		if got, want := deriv.First(parsed(t, c.s)), byteset.Of([]byte(c.bytes)...); got != want {
			t.Errorf("First(%s): %x, want %x", c.s, got, want)
		}
	}
}

func TestFirstOfManyBytes(t *testing.T) {
	full := byteset.Full()
	for _, c := range []struct {
		s    string
		want api.Set
	}{
		{".", full}, {".*a", full}, {"a*.", full}, {"[^a]|a", full},
		{"[^a]", byteset.Not(byteset.Of('a'))}, {"[^a]a", byteset.Not(byteset.Of('a'))},
		{`[\x00-\x7f]?[\xf0-\xff]b`, byteset.Or(byteset.Range(0, 127), byteset.Range(240, 255))},
	} {
		if got := deriv.First(parsed(t, c.s)); got != c.want {
			t.Errorf("First(%s): %x, want %x", c.s, got, c.want)
		}
	}
	for c := range 256 {
		if got := deriv.First(api.Regex{one(byte(c)), a, cat}); got != byteset.Of(byte(c)) {
			t.Errorf("First of byte %d and a: %x", c, got)
		}
	}
}

func TestFirstOfTheBiggestOnes(t *testing.T) {
	if got := deriv.First(stars(400)); got != a.Set {
		t.Errorf("First of a and Stars: %x", got)
	}
	var l []byte
	r := api.Regex{one(0), star}
	for c := range 100 {
		l = append(l, byte(2*c))
		if c > 0 {
			r = append(r, one(byte(2*c)), star, cat)
		}
	}
	if got := deriv.First(r); got != byteset.Of(l...) {
		t.Errorf("First of a row of Stars: %x", got)
	}
	if got := deriv.First(append(r, one(255), cat)); got != byteset.Of(append(l, 255)...) {
		t.Errorf("First of a row of Stars and a byte: %x", got)
	}
}

// P5.2: By.

// refused returns lists of pieces that rex.Check refuses.
func refused() []api.Regex {
	return []api.Regex{
		nil, {}, {a, a}, {star}, {cat}, {a, cat}, {a, a, a, cat}, {a, star, alt}, {star, a}, {cat, a, a}, {a, b, alt, a},
		{{Kind: 7}}, {{Kind: -1}}, {{Kind: math.MaxInt}}, {a, {Kind: 7}}, {a, a, {Kind: -1}},
		{{Kind: api.One}}, {a, {Kind: api.One}, alt}, {{Kind: api.One}, star}, {{Kind: api.None, Set: a.Set}}, {a, {Kind: api.Star, Set: a.Set}}, {a, a, {Kind: api.Alt, Set: a.Set}},
		stars(401), append(rex.Word(strings.Repeat("a", 200)), star, opt), nested(150), slices.Repeat(api.Regex{a}, 401),
	}
}

// isVoid checks that nothing remains, and nothing is told beside that.
func isVoid(t *testing.T, call string, got deriv.Left) {
	t.Helper()
	if !got.Void || len(got.R) != 0 {
		t.Errorf("%s: %v, %s, want Void", call, got.Void, brief(got.R))
	}
}

func TestByOfRefusedOnes(t *testing.T) {
	for _, r := range refused() {
		if rex.Check(r) == api.OK {
			t.Fatalf("%s is valid", brief(r))
		}
		for _, c := range []byte{'a', 'b', 0, 255} {
			isVoid(t, "By of "+brief(r), deriv.By(r, c))
		}
	}
}

func TestByOfBytesThatNoStringStartsWith(t *testing.T) {
	for _, c := range []struct {
		s     string
		bytes string
	}{
		{"~", "a~\x00"}, {"~*", "a*"}, {"~+", "a+"}, {"~?", "a"}, {"~~", "a"}, {"~|~", "a|"},
		{"a", "bA\x00\xff"}, {"[b-d]", "ae"}, {"[^b]", "b"}, {"ab", "b"}, {"a+b", "b"}, {"(ab)*", "b"}, {"a|b", "c"}, {"(a|b)?", "c"}, {`a\n`, "\n"},
	} {
		for i := range len(c.bytes) {
			isVoid(t, fmt.Sprintf("By(%s, %q)", c.s, c.bytes[i]), deriv.By(parsed(t, c.s), c.bytes[i]))
		}
	}
}

func TestByOfOneByte(t *testing.T) {
	follow := append(texts("ab\x00\xff", 2), texts("~*.", 2)...)
	for c := range 256 {
		r := api.Regex{one(byte(c))}
		for x := range 256 {
			got := deriv.By(r, byte(x))
			if x != c {
				isVoid(t, "By of another byte", got)
				continue
			}
			remains(t, "By of one byte", r, string([]byte{byte(x)}), got, follow)
			if got.Void || !deriv.Empty(got.R) {
				t.Errorf("By of the byte %d itself: %v, %s", c, got.Void, brief(got.R))
			}
		}
	}
}

func TestByOfAllBytes(t *testing.T) {
	r := api.Regex{{Kind: api.One, Set: byteset.Full()}}
	for x := range 256 {
		got := deriv.By(r, byte(x))
		if got.Void || !deriv.Empty(got.R) || deriv.First(got.R) != (api.Set{}) {
			t.Errorf("By(., %d): %v, %s", x, got.Void, brief(got.R))
		}
		got = deriv.By(append(slices.Clone(r), plus), byte(x))
		if got.Void || !deriv.Empty(got.R) || deriv.First(got.R) != byteset.Full() {
			t.Errorf("By(.+, %d): %v, %s", x, got.Void, brief(got.R))
		}
	}
}

// The example of the chapter.
func TestTheExample(t *testing.T) {
	r := parsed(t, "a*")
	got := deriv.By(r, 'a')
	remains(t, "By(a*, a)", r, "a", got, texts("ab", 8))
	if got.Void || !deriv.Empty(got.R) || deriv.First(got.R) != a.Set {
		t.Errorf("By(a*, a): %v, %s", got.Void, brief(got.R))
	}
}

func TestByOfEachKind(t *testing.T) {
	follow := texts("abcd", 5)
	for _, s := range append(larger(), "~", "a", "ab", "a|b", "a*", "a+", "a?", "(ab)*", "(ab)+", "(ab)?", "ab|ac", "ab|cd", "a*b", "a?a", "a?b", "~a", "a~", "a++", "a**", "a?*", "a+?") {
		r := parsed(t, s)
		for _, c := range []byte("abcd") {
			call := fmt.Sprintf("By(%s, %c)", s, c)
			got := deriv.By(r, c)
			remains(t, call, r, string([]byte{c}), got, follow)
			if got.Void == startsSome(r, string([]byte{c}), follow) {
				t.Errorf("%s: Void: %v", call, got.Void)
			}
		}
	}
}

// Valid expressions of just MaxRegex pieces are not refused.
func TestByOfTheBiggestOnes(t *testing.T) {
	follow := append(texts("ax", 4), strings.Repeat("a", 62), strings.Repeat("ax", 31), strings.Repeat("a", 60)+"x")
	for _, r := range []api.Regex{
		stars(400), append(api.Regex{a}, slices.Repeat(api.Regex{plus}, 399)...), append(stars(399), opt),
		append(rex.Word(strings.Repeat("a", 200)), star),
		append(slices.Repeat(api.Regex{a}, 200), slices.Repeat(api.Regex{cat}, 199)...),
		append(slices.Repeat(api.Regex{a}, 200), slices.Repeat(api.Regex{alt}, 199)...),
		append(slices.Repeat(api.Regex{a, opt}, 133), slices.Repeat(api.Regex{cat}, 132)...),
		nested(99), append(nested(132), opt, opt),
	} {
		if e := rex.Check(r); e != api.OK {
			t.Fatalf("%s: %d", brief(r), e)
		}
		got := deriv.By(r, 'a')
		remains(t, "By(.., a) of "+brief(r), r, "a", got, follow)
		if got.Void {
			t.Errorf("By(.., a) of %s: Void", brief(r))
		}
		isVoid(t, "By(.., b) of "+brief(r), deriv.By(r, 'b'))
	}
}

// P5.2: Through.

func TestThroughOfRefusedOnes(t *testing.T) {
	for _, r := range refused() {
		for _, s := range []string{"", "a", "ab", "\x00"} {
			for _, most := range []int{math.MinInt, -1, 0, 1, 400, 1000, math.MaxInt} {
				got, n := deriv.Through(r, s, most)
				isVoid(t, "Through of "+brief(r), got)
				if n != 0 {
					t.Errorf("Through of %s: %d", brief(r), n)
				}
			}
		}
	}
}

// Of the empty text the result is that behind all bytes, however few pieces it may have.
func TestThroughTheEmptyText(t *testing.T) {
	follow := texts("abc", 5)
	for _, s := range append(larger(), "~", "a", "a*", "ab") {
		r := parsed(t, s)
		for _, most := range []int{math.MinInt, -1, 0, 1, len(r) - 1, len(r), math.MaxInt} {
			got, n := deriv.Through(r, "", most)
			if got.Void || n != 0 {
				t.Errorf("Through(%s, \"\", %d): %v, %d", s, most, got.Void, n)
			}
			remains(t, "Through of the empty text", r, "", got, follow)
		}
	}
}

func TestThroughUpToWhatIsVoid(t *testing.T) {
	for _, c := range []struct {
		r, s string
		at   int
	}{
		{"~", "a", 0}, {"~", "aaa", 0}, {"a", "b", 0}, {"a", "ab", 1}, {"a", "aaaa", 1}, {"abc", "abd", 2}, {"abc", "abcd", 3}, {"abc", "bc", 0},
		{"a*", "aaab", 3}, {"a*", "aaabaaa", 3}, {"a*", "b", 0}, {"a(b|c)*d?", "adx", 2}, {"a(b|c)*d?", "abcbcdd", 6}, {"a(b|c)*d?", "abcx", 3},
		{"[^a]+", "bcda", 3}, {"(ab)+", "ababb", 4}, {"(ab)+", "abaa", 3}, {"(ab|ac)d", "acc", 2}, {"a\\x00b", "a\x00\x00", 2}, {"(\\xff\\xfe)*", "\xff\xfe\xff\xff", 3},
	} {
		got, n := deriv.Through(parsed(t, c.r), c.s, 1000)
		isVoid(t, fmt.Sprintf("Through(%s, %q)", c.r, c.s), got)
		if n != c.at {
			t.Errorf("Through(%s, %q): %d, want %d", c.r, c.s, n, c.at)
		}
	}
}

func TestThroughAllBytes(t *testing.T) {
	for _, c := range []struct {
		r, s   string
		empty  bool
		first  string
		has    []string
		hasNot []string
	}{
		{"a(b|c)*d?", "abc", true, "bcd", []string{"", "d", "bccd"}, []string{"dd", "a", "db"}},
		{"abc", "abc", true, "", []string{""}, []string{"a", "c"}},
		{"abc", "ab", false, "c", []string{"c"}, []string{"", "cc"}},
		{"(ab)+", "aba", false, "b", []string{"b", "bab"}, []string{"", "a", "ba"}},
		{"(ab)+", "abab", true, "a", []string{"", "ab"}, []string{"b", "aba"}},
		{"(a|ab)(c|bcd)", "ab", false, "bc", []string{"c", "cd", "bcd"}, []string{"", "b", "d"}},
		{"[^a]*", "bbb", true, string(byteset.List(byteset.Not(a.Set))), []string{"", "zz"}, []string{"a", "za"}},
		{`(\x00|\xff)*`, "\x00\xff\x00", true, "\x00\xff", []string{"", "\xff\x00"}, []string{"a"}},
	} {
		call := fmt.Sprintf("Through(%s, %q)", c.r, c.s)
		got, n := deriv.Through(parsed(t, c.r), c.s, 1000)
		m, ok := modelOf(got.R)
		if got.Void || n != len(c.s) || !ok {
			t.Fatalf("%s: %v, %d, %s", call, got.Void, n, brief(got.R))
		}
		if deriv.Empty(got.R) != c.empty || deriv.First(got.R) != byteset.Of([]byte(c.first)...) {
			t.Errorf("%s: %s", call, brief(got.R))
		}
		for i, s := range slices.Concat(c.has, c.hasNot) {
			if m.has(s) != (i < len(c.has)) {
				t.Errorf("%s: %s: that it has %q is %v", call, brief(got.R), s, m.has(s))
			}
		}
	}
}

// sizes returns how many pieces the results behind the first bytes of a text have, up to the first one that is Void.
func sizes(r api.Regex, s string) []int {
	var l []int
	for i := range len(s) {
		left, _ := deriv.Through(r, s[:i+1], math.MaxInt)
		if left.Void {
			break
		}
		l = append(l, len(left.R))
	}
	return l
}

// A result of just most pieces is read on, and one of more pieces is returned at once.
func TestThroughOfMostPieces(t *testing.T) {
	follow := texts("abc", 3)
	for _, text := range append(larger(), "~", "a", "abc", "aaaa", "(abc)*", "a|bb|ccc") {
		r := parsed(t, text)
		for _, s := range append(texts("abc", 2), "abcabc", "aabbcc", "cccaaa", "abababab") {
			l := sizes(r, s)
			mosts := []int{math.MinInt, -1, 0, math.MaxInt}
			for _, size := range l {
				mosts = append(mosts, size-1, size, size+1)
			}
			slices.Sort(mosts)
			for _, most := range slices.Compact(mosts) {
				throughMost(t, r, s, l, most, follow)
			}
		}
	}
}

// Results may have more pieces than a valid expression, and are read on nevertheless.
func TestThroughOfMoreThanMaxRegexPieces(t *testing.T) {
	follow := texts("ax", 3)
	for _, r := range []api.Regex{nested(30), nested(132)} {
		for _, s := range []string{"a", "xa", strings.Repeat("aax", 10)} {
			l := sizes(r, s)
			if slices.Max(l) <= api.MaxRegex {
				t.Fatalf("the results of %s behind %q have %v pieces", brief(r), s, l)
			}
			for _, most := range []int{0, api.MaxRegex, slices.Max(l) - 1, slices.Max(l)} {
				throughMost(t, r, s, l, most, follow)
			}
			if left := deriv.By(r, s[0]); len(left.R) != l[0] {
				t.Errorf("By(%s, %c): %d pieces, want %d", brief(r), s[0], len(left.R), l[0])
			} else {
				isVoid(t, "By of what has more than MaxRegex pieces", deriv.By(left.R, 'a'))
			}
		}
		if got, n := deriv.Through(r, "axaxb", math.MaxInt); !got.Void || n != 4 {
			t.Errorf("Through(%s, axaxb): %v, %d", brief(r), got.Void, n)
		}
	}
}

// throughMost checks a Through with a bound, of which the sizes of the results without a bound are known.
func throughMost(t *testing.T, r api.Regex, s string, sizes []int, most int, follow []string) {
	t.Helper()
	call := fmt.Sprintf("Through(%s, %q, %d)", brief(r), s, most)
	got, n := deriv.Through(r, s, most)
	big := slices.IndexFunc(sizes, func(size int) bool { return size > most })
	switch {
	case big >= 0:
		if got.Void || n != big || len(got.R) != sizes[big] {
			t.Fatalf("%s: %v, %d, %s, want %d pieces at %d", call, got.Void, n, brief(got.R), sizes[big], big)
		}
		remains(t, call, r, s[:n+1], got, follow)
	case len(sizes) < len(s):
		isVoid(t, call, got)
		if n != len(sizes) {
			t.Fatalf("%s: %d, want %d", call, n, len(sizes))
		}
	default:
		if got.Void || n != len(s) {
			t.Fatalf("%s: %v, %d", call, got.Void, n)
		}
		remains(t, call, r, s, got, follow)
	}
}

// P5.3: First and By, of expressions with many first bytes and with few.
func TestFirstAndBy(t *testing.T) {
	l := []string{"~", ".", "[^a]", `[\x00-\x40]?[\xf0-\xff]`, ".*a", "[^a]*a", `(\x00|\xff)+b`, "~|a", "[0-9]+|[a-z][a-z0-9]*", "~*", "a?b?c?d?"}
	for _, text := range append(l, larger()...) {
		r := parsed(t, text)
		first := deriv.First(r)
		for x := range 256 {
			if got := deriv.By(r, byte(x)); got.Void == byteset.Has(first, byte(x)) {
				t.Errorf("By(%s, %d): Void: %v; in First: %v", text, x, got.Void, byteset.Has(first, byte(x)))
			}
		}
	}
}
