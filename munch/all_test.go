package munch_test

import (
	"fmt"
	"slices"
	"strings"
	"testing"

	"bosket/api"
	"bosket/munch"
)

// The example of the chapter.
func TestTheExample(t *testing.T) {
	l, n, err := munch.All(machine(t, "a", "aab"), "aaab")
	if want := []api.Token{{Rule: 0, Text: "a", At: 0}, {Rule: 1, Text: "aab", At: 1}}; !slices.Equal(l, want) || n != 4 || err != api.OK {
		t.Errorf("%s, %d, error %d", listed(l), n, err)
	}
}

// P12.2: texts that consist of tokens.
func TestAll(t *testing.T) {
	d := machine(t, "if", "[a-z]+", " +", "[0-9]+(\\.[0-9]+)?", "\\.\\.", "\\n", "[\\x80-\\xff]")
	for s, want := range map[string][]api.Token{
		"":         nil,
		"if":       {{Rule: 0, Text: "if", At: 0}},
		"ifs":      {{Rule: 1, Text: "ifs", At: 0}},
		"ifif":     {{Rule: 1, Text: "ifif", At: 0}},
		"if if":    {{Rule: 0, Text: "if", At: 0}, {Rule: 2, Text: " ", At: 2}, {Rule: 0, Text: "if", At: 3}},
		"1..2.5x":  {{Rule: 3, Text: "1", At: 0}, {Rule: 4, Text: "..", At: 1}, {Rule: 3, Text: "2.5", At: 3}, {Rule: 1, Text: "x", At: 6}},
		"1.5..":    {{Rule: 3, Text: "1.5", At: 0}, {Rule: 4, Text: "..", At: 3}},
		"....":     {{Rule: 4, Text: "..", At: 0}, {Rule: 4, Text: "..", At: 2}},
		"  \n\n x": {{Rule: 2, Text: "  ", At: 0}, {Rule: 5, Text: "\n", At: 2}, {Rule: 5, Text: "\n", At: 3}, {Rule: 2, Text: " ", At: 4}, {Rule: 1, Text: "x", At: 5}},
		"a\u00e9b": {{Rule: 1, Text: "a", At: 0}, {Rule: 6, Text: "\xc3", At: 1}, {Rule: 6, Text: "\xa9", At: 2}, {Rule: 1, Text: "b", At: 3}},
	} {
		l, n, err := munch.All(d, s)
		if !slices.Equal(l, want) || n != len(s) || err != api.OK {
			t.Errorf("%q: %s, %d, error %d, want %s", s, listed(l), n, err, listed(want))
		}
	}
}

// P12.2: the first index at which no token begins, and the tokens before it.
func TestAllOfTextsThatAreNotTokens(t *testing.T) {
	d := machine(t, "[a-z]+", " +", "[0-9]+(\\.[0-9]+)?", "\\.\\.")
	for _, c := range []struct {
		s    string
		want []api.Token
		at   int
	}{
		{"!", nil, 0},
		{"!a", nil, 0},
		{"..!", []api.Token{{Rule: 3, Text: "..", At: 0}}, 2},
		{"a!b!c", []api.Token{{Rule: 0, Text: "a", At: 0}}, 1},
		{"12.x", []api.Token{{Rule: 2, Text: "12", At: 0}}, 2},
		{"12.", []api.Token{{Rule: 2, Text: "12", At: 0}}, 2},
		{"...", []api.Token{{Rule: 3, Text: "..", At: 0}}, 2},
		{".", nil, 0},
		{"a b\x00", []api.Token{{Rule: 0, Text: "a", At: 0}, {Rule: 1, Text: " ", At: 1}, {Rule: 0, Text: "b", At: 2}}, 3},
		{"a\u00e9", []api.Token{{Rule: 0, Text: "a", At: 0}}, 1},
	} {
		l, at, err := munch.All(d, c.s)
		if !slices.Equal(l, c.want) || at != c.at || err != api.ErrToken {
			t.Errorf("%q: %s, %d, error %d, want %s, %d", c.s, listed(l), at, err, listed(c.want), c.at)
		}
	}
}

// P12.2: the empty string is no token, even if it has a mark.
func TestAllHasNoEmptyTokens(t *testing.T) {
	d := plain(rows{{-1, 1, 0}, {-1, -1, 0}}, 5, -1)
	for s, want := range map[string]int{"": 0, "bbabab": 6, "bbx": 2, "x": 0, "a": 0, "bba": 2, "abaab": 2} {
		l, at, err := munch.All(d, s)
		if at != want || (err == api.OK) != (want == len(s)) || munch.Text(l) != s[:want] || len(l) != min(want, 1) {
			t.Errorf("%q: %s, %d, error %d, want %d", s, listed(l), at, err, want)
		}
	}
	always := api.DFA{Next: rows{{-1}}, Mark: []int{0}} // only the empty string
	if l, at, err := munch.All(always, "abc"); len(l) != 0 || at != 0 || err != api.ErrToken {
		t.Errorf("%s, %d, error %d", listed(l), at, err)
	}
}

// P12.2: MaxText bytes are permitted, and one more is not.
func TestAllAtTheBound(t *testing.T) {
	d := machine(t, "a+", "[bc]", "dd")
	for _, c := range []struct {
		s     string
		count int
		at    int
		err   api.Errno
	}{
		{strings.Repeat("a", 65535), 1, 65535, api.OK},
		{strings.Repeat("a", 65536), 1, 65536, api.OK},
		{strings.Repeat("b", 65536), 65536, 65536, api.OK},
		{strings.Repeat("dd", 32768), 32768, 65536, api.OK},
		{strings.Repeat("b", 65535) + "x", 65535, 65535, api.ErrToken},
		{strings.Repeat("b", 65535) + "d", 65535, 65535, api.ErrToken},
		{strings.Repeat("x", 65536), 0, 0, api.ErrToken},
		{strings.Repeat("a", 65537), 0, 0, api.ErrBig},
		{strings.Repeat("b", 65537), 0, 0, api.ErrBig},
		{strings.Repeat("x", 65537), 0, 0, api.ErrBig}, // ahead of ErrToken
		{"b" + strings.Repeat("x", 65536), 0, 0, api.ErrBig},
		{strings.Repeat("b", 1<<20), 0, 0, api.ErrBig},
	} {
		l, at, err := munch.All(d, c.s)
		if len(l) != c.count || at != c.at || err != c.err {
			t.Errorf("%d bytes, %.5q: %s, %d, error %d, want %d tokens, %d, error %d", len(c.s), c.s, listed(l), at, err, c.count, c.at, c.err)
		}
		checkAll(t, d, c.s)
	}
	if api.MaxText != 65536 {
		t.Error(api.MaxText)
	}
}

// P12.2, P12.3: all small automata, all short texts.
func TestAllOfSmallAutomata(t *testing.T) {
	all := texts("ab", 6)
	for d := range small() {
		for _, s := range all {
			checkAll(t, d, s)
		}
	}
}

// P12.2, P12.3: many bigger automata and texts. Each token is the Longest where it begins.
func TestAllOfBiggerAutomata(t *testing.T) {
	x := source(14)
	for d := range bigger(15, 1500) {
		for range 20 {
			s := x.text("abc\x00\xff\x80", 40)
			for _, token := range checkAll(t, d, s) {
				mark, length := munch.Longest(d, s, token.At)
				if mark != token.Rule || length != len(token.Text) {
					t.Fatalf("%q at %d: %s, Longest %d, %d: %s", s, token.At, listed([]api.Token{token}), mark, length, told(d))
				}
			}
		}
	}
}

// P12.2, P12.3: long texts in which many bytes are read in vain behind most tokens, from many states, up to places that are far or near.
func TestAllOfLongTexts(t *testing.T) {
	x := source(16)
	for _, regexes := range [][]string{
		{"a", "a*b"}, {"a", "(aa)*b", "(aaa)*c"}, {"aa?", "(aaaaa)*b", "c", "d"}, {"aaa|aa", "a(aaa)*b", "(aaaa)*c"},
		{"[abc]", "[abc]*d"}, {"a|b|c", "(a|b|c(a|b)*c)*d"}, {"ab?", "b", "(ab|ac)*d", "c"}, {"a", "b", "c", "d", "[ab]*a[ab][ab][ab]c"},
		{"a", "(a+(b|c))*d", "c"}, {"(ab)+", "(ab)*(abc|d)", "a", "[a-d]a"}, {"[a-c]d?", "[a-d]*aaaa"},
	} {
		d := machine(t, regexes...)
		for range 40 {
			checkAll(t, d, long(&x))
		}
	}
}

// long returns a text of runs, many of them of one letter.
func long(x *source) string {
	var b strings.Builder
	for range 1 + x.below(8) {
		switch x.below(4) {
		case 0:
			b.WriteString(x.text("abcd", 300))
		case 1:
			b.WriteString(strings.Repeat(x.text("abc", 3), x.below(200)))
		default:
			b.WriteString(strings.Repeat("a", x.below(900)))
		}
		b.WriteByte("abcd"[x.below(4)])
	}
	return b.String()
}

// P12.2, P12.3: long texts for automata that are told at random.
func TestAllOfLongTextsAndBiggerAutomata(t *testing.T) {
	x := source(17)
	for d := range bigger(18, 3000) {
		s := x.text("abc", 3)
		checkAll(t, d, strings.Repeat(s, 300)+x.text("abc\x00\xff\x80", 600))
		checkAll(t, d, long(&x))
	}
}

// P12.2: whether a token can go on far behind its first end differs with its state, and with its place.
func TestAllOfEachLength(t *testing.T) {
	d := machine(t, "a", "(aa)*b", "(aaa)*c", "x")
	for n := range 800 {
		run := strings.Repeat("a", n)
		for _, s := range []string{run, run + "b", run + "c", run + "xb", run + "x" + run + "b", run + "x" + run + "c" + run} {
			checkAll(t, d, s)
		}
	}
}

// P12.2: texts whose every token would be followed by all of the rest, read in vain, each time for as long as the whole takes.
func TestAllOfGreatTexts(t *testing.T) {
	run := strings.Repeat("a", 65535)
	for i, regexes := range [][]string{{"a", "a*b"}, {"a", "(aa)*b"}, {"a", "(" + strings.Repeat("a", 101) + ")*b"}, {"a|b", "[ab]*c"}, {"a", "[a-z]*[0-9]"}} {
		d := machine(t, regexes...)
		l, at, err := munch.All(d, run)
		if len(l) != 65535 || at != 65535 || err != api.OK || munch.Text(l) != run {
			t.Errorf("%q: %s, %d, error %d", regexes, listed(l), at, err)
		}
		if l, at, err := munch.All(d, run+"~"); len(l) != 65535 || at != 65535 || err != api.ErrToken {
			t.Errorf("%q: %s, %d, error %d", regexes, listed(l), at, err)
		}
		last := []string{"b", "b", "b", "c", "7"}[i]
		ahead := []int{0, 1, 65535 % 101, 0, 0}[i] // so many a are tokens of their own
		if l, at, err := munch.All(d, run+last); len(l) != ahead+1 || at != 65536 || err != api.OK || l[ahead].Rule != 1 || l[ahead].Text != run[ahead:]+last {
			t.Errorf("%q: %s, %d, error %d", regexes, listed(l), at, err)
		}
	}
}

// P12.2: automata of many states, most of which are met in vain ahead of a b.
func TestAllOfGreatAutomata(t *testing.T) {
	for _, states := range []int{3, 100, 700, 2000} {
		d := chain(states)
		for _, n := range []int{states - 2, states - 1, states, 2*states - 2, 2*states - 1, 3 * states} {
			checkAll(t, d, strings.Repeat("a", n))
			checkAll(t, d, strings.Repeat("a", n)+"b")
		}
	}
	d, run := chain(1<<15), strings.Repeat("a", 1<<15-1)
	if l, at, err := munch.All(d, run); len(l) != 1 || l[0].Rule != 1 || at != len(run) || err != api.OK {
		t.Errorf("%s, %d, error %d", listed(l), at, err)
	}
	if l, at, err := munch.All(d, run[:4000]); len(l) != 4000 || l[0].Rule != 0 || at != 4000 || err != api.OK {
		t.Errorf("%s, %d, error %d", listed(l), at, err)
	}
}

// P12.2: Text does not look at rules and indices.
func TestText(t *testing.T) {
	for _, c := range []struct {
		l    []api.Token
		want string
	}{
		{nil, ""}, {[]api.Token{}, ""}, {[]api.Token{{}}, ""}, {[]api.Token{{}, {}}, ""},
		{[]api.Token{{Text: "a"}}, "a"},
		{[]api.Token{{Rule: 3, Text: "ab", At: 7}, {Rule: -1, Text: "", At: -1}, {Text: "\x00\xff"}, {Text: "ab", At: 2}}, "ab\x00\xffab"},
		{slices.Repeat([]api.Token{{Text: "xyz"}}, 30000), strings.Repeat("xyz", 30000)},
		{[]api.Token{{Text: strings.Repeat("x", 100000)}, {Text: "y"}}, strings.Repeat("x", 100000) + "y"},
	} {
		if got := munch.Text(c.l); got != c.want {
			t.Errorf("%s: %.50q, want %.50q", listed(c.l), got, c.want)
		}
	}
}

// P12.2: Same of lists that differ in one thing, or only in their indices.
func TestSame(t *testing.T) {
	l := []api.Token{{Rule: 1, Text: "a", At: 0}, {Rule: 2, Text: "", At: 1}, {Rule: -1, Text: "b\x00", At: 9}}
	changed := func(change func(l []api.Token)) []api.Token {
		other := slices.Clone(l)
		change(other)
		return other
	}
	check := func(what string, a, b []api.Token, want bool) {
		t.Helper()
		if munch.Same(a, b) != want || munch.Same(b, a) != want {
			t.Errorf("%s: %v, %v", what, munch.Same(a, b), munch.Same(b, a))
		}
	}
	check("nothing", nil, nil, true)
	check("nothing and an empty list", nil, []api.Token{}, true)
	check("nothing and an empty token", nil, []api.Token{{}}, false)
	check("the list itself", l, l, true)
	check("a copy", l, slices.Clone(l), true)
	check("a token more", l, append(slices.Clone(l), api.Token{}), false)
	check("a token less", l, l[:2], false)
	check("a token less ahead", l, l[1:], false)
	check("another order", l, []api.Token{l[1], l[0], l[2]}, false)
	check("other texts of the same length in all", []api.Token{{Text: "ab"}, {Text: "c"}}, []api.Token{{Text: "a"}, {Text: "bc"}}, false)
	for i := range l {
		check(fmt.Sprintf("another index of %d", i), l, changed(func(l []api.Token) { l[i].At += 5 }), true)
		check(fmt.Sprintf("another rule of %d", i), l, changed(func(l []api.Token) { l[i].Rule++ }), false)
		check(fmt.Sprintf("a longer text of %d", i), l, changed(func(l []api.Token) { l[i].Text += "x" }), false)
		check(fmt.Sprintf("another text of %d", i), l, changed(func(l []api.Token) { l[i].Text = "z" }), false)
	}
}

// P12.2: Same of the tokens of texts, with and without the blanks that were read.
func TestSameOfTexts(t *testing.T) {
	d := machine(t, "if", "[a-z]+", " +")
	read := func(s string) []api.Token {
		l, _, err := munch.All(d, s)
		if err != api.OK {
			t.Fatalf("%q: error %d", s, err)
		}
		return slices.DeleteFunc(l, func(token api.Token) bool { return token.Rule == 2 })
	}
	if !munch.Same(read("if a b"), read("  if   a b ")) || munch.Same(read("if a b"), read("if ab")) || munch.Same(read("if a b"), read("ifs a b")) {
		t.Error("Same of texts")
	}
}
