package subset_test

import (
	"slices"
	"testing"

	"bosket/api"
	"bosket/nfa"
)

// tells checks P7.2 for some texts.
func tells(t *testing.T, all []string, n api.NFA, marks []int) {
	t.Helper()
	d := made(t, n, marks)
	for _, s := range all {
		if got, want := markAfter(d, s), markOf(reached(n, s), marks); got != want {
			t.Fatalf("%q leads to the mark %d, want %d: %s, with the marks %v", s, got, want, told(n), marks)
		}
	}
}

// P7.2: automata of expressions and of no expression.
func TestMarksOfStrings(t *testing.T) {
	all := texts("abc", 4)
	for _, s := range []string{"~", "a", "(a|b)*abb", "ab|ac", "(a?b?c?)*", "((a+b?)+c?)+", "[^a]*a?", ".*a.", "(~*)*", "c(b(a|~)|~)|~"} {
		n := of(t, s)
		tells(t, all, n, onlyLast(n))
		tells(t, all, n, []int{3, 2, 1, 0, 4, -1, 5})
	}
	all = texts("abc\x00\xff", 3)
	for n, marks := range bigger() {
		tells(t, all, n, marks)
	}
}

// P7.2: all small automata.
func TestMarksOfStringsBySmallAutomata(t *testing.T) {
	all := texts("ab", 3)
	for n := range small() {
		tells(t, all, n, []int{1, 0})
		tells(t, all, n, []int{-1, 0})
	}
}

// P7.2: by One, the strings with the mark 0 are those that are accepted.
func TestOneMarksWhatIsAccepted(t *testing.T) {
	all := texts("abc", 4)
	check := func(n api.NFA) {
		d := one(t, n)
		for _, s := range all {
			if got := markAfter(d, s); got != 0 && got != -1 || got == 0 != nfa.Has(n, s) {
				t.Fatalf("%q has the mark %d: %s", s, got, told(n))
			}
		}
	}
	for _, s := range []string{"~", "a", "(a|b)*abb", "a*b+c?", "((a*b)*c)*", "(ab|ba)*", "[^b]?.", "(a|ab|abc)*c"} {
		check(of(t, s))
	}
	for n := range bigger() {
		check(n)
	}
}

// P7.2: of the automata of a union that accept a string the one with the smallest mark tells, wherever it stands.
func TestMarksOfUnions(t *testing.T) {
	rules := []string{"if", "[a-z]+", "i", "f|g", ".", "~", "[a-z]*g", "if|of"}
	var l []api.NFA
	for _, s := range rules {
		l = append(l, of(t, s))
	}
	u, lasts := nfa.Union(l...)
	all := append(texts("ifg0", 4), "of", "\xff", "\x00")
	for _, marks := range [][]int{{0, 1, 2, 3, 4, 5, 6, 7}, {7, 6, 5, 4, 3, 2, 1, 0}, {3, 3, 3, 1, 1, 1, 2, 0}, {-1, 4, -1, 3, 5, -2, 4, -1}} {
		list := slices.Repeat([]int{-1}, u.States)
		for i, last := range lasts {
			list[last] = marks[i]
		}
		tells(t, all, u, list)
		d := made(t, u, list)
		for _, s := range all {
			want := -1
			for i, n := range l {
				if marks[i] >= 0 && nfa.Has(n, s) && (want < 0 || marks[i] < want) {
					want = marks[i]
				}
			}
			if got := markAfter(d, s); got != want {
				t.Errorf("rules with the marks %v: %q has the mark %d, want %d", marks, s, got, want)
			}
		}
	}
}
