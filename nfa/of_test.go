package nfa_test

import (
	"math"
	"slices"
	"strings"
	"testing"

	"bosket/api"
	"bosket/byteset"
	"bosket/nfa"
	"bosket/rex"
)

// of returns the automaton of a valid expression, which has to have twice as many states as that has pieces.
func of(t *testing.T, r api.Regex) api.NFA {
	t.Helper()
	n, e := nfa.Of(r)
	if e != api.OK {
		t.Fatalf("Of(%s): %d", brief(r), e)
	}
	if n.States != 2*len(r) || !nfa.Right(n) {
		t.Fatalf("Of(%s): %s", brief(r), told(n))
	}
	return n
}

// accepts checks which of the texts an automaton accepts.
func accepts(t *testing.T, name string, n api.NFA, has, hasNot []string) {
	t.Helper()
	for i, s := range slices.Concat(has, hasNot) {
		if got := nfa.Has(n, s); got != (i < len(has)) {
			t.Errorf("Has(%s, %q): %v", name, s, got)
		}
	}
}

// refused returns lists of pieces that rex.Check refuses, with its errors.
func refused() map[api.Errno][]api.Regex {
	a, star, cat := one('a'), api.Piece{Kind: api.Star}, api.Piece{Kind: api.Cat}
	return map[api.Errno][]api.Regex{
		api.ErrRegex: {
			nil, {}, {a, a}, {star}, {cat}, {a, cat}, {star, a}, {a, a, cat, cat}, {a, a, a, cat},
			{{Kind: 7}}, {{Kind: -1}}, {a, {Kind: math.MaxInt}}, {a, {Kind: math.MinInt}},
			{{Kind: api.One}}, {{Kind: api.One}, star}, {{Kind: api.None, Set: a.Set}}, {a, {Kind: api.Star, Set: a.Set}}, {a, a, {Kind: api.Cat, Set: a.Set}},
			slices.Repeat(api.Regex{a}, 400),
		},
		api.ErrBig: {
			append(api.Regex{a}, slices.Repeat(api.Regex{star}, 400)...), rex.Word(strings.Repeat("a", 201)), slices.Repeat(api.Regex{{Kind: -1}}, 401), slices.Repeat(api.Regex{a}, 5000),
		},
	}
}

// P6.1: the error of rex.Check, and nothing beside it.
func TestOfRefusedOnes(t *testing.T) {
	for want, l := range refused() {
		for _, r := range l {
			n, e := nfa.Of(r)
			if e != want || e != rex.Check(r) {
				t.Errorf("Of(%s): %d, want %d", brief(r), e, want)
			}
			if n.States != 0 || n.First != 0 || n.Last != 0 || len(n.Edges) != 0 {
				t.Errorf("Of(%s): %s", brief(r), told(n))
			}
		}
	}
}

// The example of the chapter.
func TestTheExample(t *testing.T) {
	n, e := nfa.Of(parsed(t, "a"))
	if e != api.OK || n.States != 2 || len(n.Edges) != 1 {
		t.Fatalf("Of(a): %d, %s", e, told(n))
	}
	if edge := n.Edges[0]; edge.Free || edge.Set != byteset.Of('a') || edge.From != n.First || edge.To != n.Last || n.First == n.Last {
		t.Errorf("Of(a): %s", told(n))
	}
}

// P6.1: each kind of piece.
func TestOfEachKind(t *testing.T) {
	l := func(s ...string) []string { return s }
	for _, c := range []struct {
		r           string
		has, hasNot []string
	}{
		{"~", l(""), l("a", "~", "\x00")},
		{"a", l("a"), l("", "b", "aa", "A")},
		{"[a-c]", l("a", "b", "c"), l("", "d", "ab")},
		{".", l("a", "\x00", "\xff", "\n"), l("", "aa")},
		{"ab", l("ab"), l("", "a", "b", "ba", "aab", "abb")},
		{"~a", l("a"), l("", "aa")}, {"a~", l("a"), l("", "aa")}, {"~~", l(""), l("a")},
		{"a|b", l("a", "b"), l("", "ab", "c")},
		{"a|~", l("", "a"), l("aa")}, {"~|~", l(""), l("a")}, {"a|a", l("a"), l("", "aa")}, {"ab|ac", l("ab", "ac"), l("a", "abc", "abac")},
		{"a*", l("", "a", "aa", "aaaaaa"), l("b", "ab", "aab")},
		{"~*", l(""), l("a")}, {"(ab)*", l("", "ab", "abab"), l("a", "aba", "ba")}, {"(a|b)*", l("", "a", "bab"), l("c", "abc")}, {"(a*)*", l("", "aaa"), l("b")},
		{"a+", l("a", "aa", "aaaaaa"), l("", "b", "ab")},
		{"~+", l(""), l("a")}, {"(ab)+", l("ab", "abab"), l("", "a", "aba")}, {"(a?)+", l("", "a", "aa"), l("b")}, {"(a*)+", l("", "aa"), l("b")},
		{"a?", l("", "a"), l("aa", "b")},
		{"~?", l(""), l("a")}, {"(ab)?", l("", "ab"), l("a", "abab")}, {"(a+)?", l("", "a", "aaa"), l("b")}, {"(a?)?", l("", "a"), l("aa")},
		{"a?b", l("b", "ab"), l("", "a", "aab")}, {"a*b*", l("", "aabb", "b"), l("ba", "aba")}, {"a+a", l("aa", "aaa"), l("", "a")}, {"(a|b)+c?", l("a", "bc", "abac"), l("", "c", "acc")},
		{"(a|b*)(c+d)?", l("", "a", "bbb", "acd", "bbccd", "cd"), l("ab", "ad", "cdcd", "c")},
	} {
		accepts(t, c.r, of(t, parsed(t, c.r)), c.has, c.hasNot)
	}
}

// P6.1: bytes are read one by one, whichever they are.
func TestOfEachByte(t *testing.T) {
	for c := range 256 {
		n := of(t, api.Regex{one(byte(c))})
		not := of(t, api.Regex{{Kind: api.One, Set: byteset.Not(byteset.Of(byte(c)))}})
		for x := range 256 {
			s := string([]byte{byte(x)})
			if nfa.Has(n, s) != (x == c) || nfa.Has(not, s) != (x != c) {
				t.Errorf("the automata of the byte %d and of all others: %v, %v for %d", c, nfa.Has(n, s), nfa.Has(not, s), x)
			}
		}
	}
	accepts(t, `..`, of(t, parsed(t, "..")), []string{"é", "\xff\xff"}, []string{"e", "\xff", "éa"})
	accepts(t, `\xc3\xa9`, of(t, parsed(t, `\xc3\xa9`)), []string{"é"}, []string{"\xc3", "\xa9", "\ufffd"})
}

// P6.1: all small expressions with all short texts.
func TestOfAllSmallOnes(t *testing.T) {
	const letters, length = "abc", 4
	pieces := []api.Piece{{Kind: api.None}, one('a'), one('b', 'a'), {Kind: api.Cat}, {Kind: api.Alt}, {Kind: api.Star}, {Kind: api.Plus}, {Kind: api.Opt}}
	all := texts(letters, length)
	for r := range expressions(5, pieces...) {
		n, want := of(t, r), languageOf(r, letters, length)
		for _, s := range all {
			if nfa.Has(n, s) != want[s] {
				t.Fatalf("the automaton of %s: that it has %q is %v", brief(r), s, !want[s])
			}
		}
	}
}

// P6.1: larger expressions with all short texts.
func TestOfLargerOnes(t *testing.T) {
	const letters, length = "abc", 6
	all := texts(letters, length)
	for _, text := range []string{
		"(a|b)*a(a|b)(a|b)", "((a*b)*c)*", "((a+b?)+c?)+", "(a?b?c?)*", "(a|ab|abc)*c", "(a*b*)*(b*a*)*", "(a(b(c|~)|~)|~)+", "((ab)+|(ba)+)*", "(aa|bb)*(ab|ba)?",
		"(a|(b|(c|~)))(a|~)", "~*a~+b~?", "((a?)*b)+", "(((a+)?)*)+b", ".*a.", "[^a]*a?", "(a|b|c)*abc", "ab+c|a*b|(a|b)*c", "(((a|b)c)*|(a(b|c))+)?", "a|b|c|ab|bc|ca|~",
	} {
		r := parsed(t, text)
		n, want := of(t, r), languageOf(r, letters, length)
		for _, s := range all {
			if nfa.Has(n, s) != want[s] {
				t.Errorf("the automaton of %s: that it has %q is %v", text, s, !want[s])
			}
		}
	}
}

// P6.1: expressions of just MaxRegex pieces are not refused.
func TestOfTheBiggestOnes(t *testing.T) {
	has := [][]string{
		{"", "a", "aaa"}, {"a", "aaa"}, {"", "a"}, {"", "a", "aaa"},
		{"", strings.Repeat("ab", 100), strings.Repeat("ab", 300)}, {strings.Repeat("a", 200)}, {"a"},
		{"a" + strings.Repeat("b", 90), "bba" + strings.Repeat("ab", 45)}, {"", "a", "bbb", strings.Repeat("ba", 200)},
	}
	hasNot := [][]string{
		{"b", "ab"}, {"", "b", "ab"}, {"aa", "b"}, {"b", "aab"},
		{"a", strings.Repeat("ab", 99), strings.Repeat("ab", 101)}, {"", strings.Repeat("a", 199), strings.Repeat("a", 201)}, {"", "aa", "b"},
		{"", strings.Repeat("b", 91), strings.Repeat("a", 90), "a" + strings.Repeat("b", 91)}, {"c", "abc"},
	}
	for i, r := range big(t) {
		accepts(t, brief(r), of(t, r), has[i], hasNot[i])
	}
}
