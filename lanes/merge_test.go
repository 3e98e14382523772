package lanes_test

import (
	"math"
	"slices"
	"testing"

	"bosket/api"
	"bosket/lanes"
	"bosket/munch"
	"bosket/rules"
)

// at returns tokens of a rule with these indices.
func at(rule int, indices ...int) []api.Token {
	var l []api.Token
	for _, i := range indices {
		l = append(l, api.Token{Rule: rule, Text: "x", At: i})
	}
	return l
}

// merges holds the merge of a list of rule 0 and one of rule 1 against the rules in it.
func merges(t *testing.T, a, b []int, want ...int) {
	t.Helper()
	l := lanes.Merge(at(0, a...), at(1, b...))
	if got := lanes.Rules(l); !slices.Equal(got, want) {
		t.Errorf("%v and %v: %v, want %v", a, b, got, want)
	}
	for rule, indices := range [][]int{a, b} {
		if got := lanes.Of([]int{0, 1}, l, rule); !slices.Equal(got, at(rule, indices...)) {
			t.Errorf("%v and %v: %v of rule %d", a, b, got, rule)
		}
	}
}

// P14.1: lists that rise; of equal indices that of a comes first.
func TestMerge(t *testing.T) {
	merges(t, nil, nil)
	merges(t, []int{1, 2}, nil, 0, 0)
	merges(t, nil, []int{1, 2}, 1, 1)
	merges(t, []int{0, 2, 4}, []int{1, 3, 5}, 0, 1, 0, 1, 0, 1)
	merges(t, []int{1, 3, 5}, []int{0, 2, 4}, 1, 0, 1, 0, 1, 0)
	merges(t, []int{1, 2}, []int{3, 4}, 0, 0, 1, 1)
	merges(t, []int{3, 4}, []int{1, 2}, 1, 1, 0, 0)
	merges(t, []int{5}, []int{5}, 0, 1)
	merges(t, []int{1, 5, 5, 6}, []int{0, 5, 5, 6}, 1, 0, 0, 0, 1, 1, 0, 1)
	merges(t, []int{0}, []int{-1}, 1, 0)
	merges(t, []int{math.MaxInt}, []int{math.MinInt}, 1, 0)
	merges(t, []int{math.MinInt}, []int{math.MaxInt}, 0, 1)
	merges(t, []int{math.MinInt, -1 << 32, 1 << 32, math.MaxInt}, []int{math.MinInt + 1, 0, 1<<32 - 1, math.MaxInt - 1, math.MaxInt}, 0, 1, 0, 1, 1, 0, 1, 0, 1)
}

// P14.1: lists that do not rise: only the first tokens that are left are held against each other.
func TestMergeOfListsThatDoNotRise(t *testing.T) {
	merges(t, []int{0, 5, 3}, []int{4, 1}, 0, 1, 1, 0, 0)
	merges(t, []int{5, 0, 0}, []int{6, 1}, 0, 0, 0, 1, 1)
	merges(t, []int{2, 2}, []int{9, 1, 0}, 0, 0, 1, 1, 1)
	merges(t, []int{9, 1, 0}, []int{2, 2}, 1, 1, 0, 0, 0)
	merges(t, []int{3, 2, 1}, []int{3, 2, 1}, 0, 0, 0, 1, 1, 1)
	merges(t, []int{3, 2, 1}, []int{2, 1, 3, 0}, 1, 1, 0, 0, 0, 1, 1)
}

// P14.1: all pairs of short lists, and longer ones. Rules and texts do not count, and are kept.
func TestMergeOfAllLists(t *testing.T) {
	var all [][]api.Token
	for _, l := range lists([]api.Token{{Text: "a"}, {Text: "b"}, {Text: "c"}}, 4) {
		for i := range l {
			l[i].At, l[i].Rule = int(l[i].Text[0]), i // the indices are a, b or c
		}
		all = append(all, l)
	}
	x := source(2)
	for range 60 {
		all = append(all, x.tokens(30))
	}
	for _, a := range all {
		for _, b := range all {
			if got, want := lanes.Merge(a, b), merged(a, b); !slices.Equal(got, want) {
				t.Fatalf("%v and %v: %v, want %v", a, b, got, want)
			}
		}
	}
}

// apart merges the tokens of the kinds of a list, in all orders.
func apart(t *testing.T, kinds []int, l []api.Token) {
	t.Helper()
	mains, skips, comments := lanes.Of(kinds, l, api.Main), lanes.Of(kinds, l, api.Skip), lanes.Of(kinds, l, api.Comment)
	if len(mains)+len(skips)+len(comments) != len(l) {
		t.Errorf("%v: %d, %d and %d", l, len(mains), len(skips), len(comments))
	}
	for _, parts := range [][3][]api.Token{{mains, skips, comments}, {mains, comments, skips}, {skips, comments, mains}, {comments, mains, skips}} {
		if got := lanes.Merge(lanes.Merge(parts[0], parts[1]), parts[2]); !slices.Equal(got, l) {
			t.Errorf("%v and then %v: %v", l, parts, got)
		}
		if got := lanes.Merge(parts[2], lanes.Merge(parts[1], parts[0])); !slices.Equal(got, l) {
			t.Errorf("%v, the other way, %v: %v", l, parts, got)
		}
	}
}

// P14.3: tokens that are separated by kind can be merged again, those of no rule too.
func TestKindsAreMergedAgain(t *testing.T) {
	for _, l := range lists([]api.Token{{Rule: 0, Text: "a"}, {Rule: 1, Text: "\n"}, {Rule: 2, Text: "#b"}, {Rule: 3, Text: "cd"}, {Rule: -1, Text: "e"}}, 5) {
		apart(t, []int{api.Main, api.Skip, api.Comment, api.Main}, l)
	}
}

// P14.3: the tokens of texts.
func TestKindsOfTextsAreMergedAgain(t *testing.T) {
	l := []api.Rule{{Name: "A", Kind: api.Main, Regex: "a+"}, {Name: "WS", Kind: api.Skip, Regex: "[ \\n\\r]"}, {Name: "NOTE", Kind: api.Comment, Regex: "#[^\\n]*\\n?"}, {Name: "ODD", Kind: api.Main, Regex: "[\\x00\\x0b\\x80-\\xff]"}}
	d, err := rules.Machine(l)
	if err != api.OK {
		t.Fatal(err)
	}
	x := source(3)
	for range 3000 {
		s := x.text(40)
		tokens, _, err := munch.All(d, s)
		if err != api.OK {
			t.Fatalf("%q: error %d", s, err)
		}
		apart(t, rules.Kinds(l), tokens)
	}
}
