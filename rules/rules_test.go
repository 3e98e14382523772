package rules_test

import (
	"fmt"
	"slices"
	"strings"
	"testing"

	"bosket/api"
	"bosket/dfa"
	"bosket/rules"
	"bosket/subset"
)

// P11.1: plain expressions.
func TestOne(t *testing.T) {
	for _, c := range []struct {
		text string
		want api.DFA
	}{
		{"a", api.DFA{Class: classes("a"), Next: rows{{-1, 1}, {-1, -1}}, Mark: []int{-1, 0}}},
		{"~", api.DFA{Next: rows{{-1}}, Mark: []int{0}}},
		{"~*", api.DFA{Next: rows{{-1}}, Mark: []int{0}}},
		{".", api.DFA{Next: rows{{1}, {-1}}, Mark: []int{-1, 0}}},
		{".*", api.DFA{Next: rows{{0}}, Mark: []int{0}}},
		{"(.|a)+", api.DFA{Next: rows{{1}, {1}}, Mark: []int{-1, 0}}},
		{"(b|a)(a|b)", api.DFA{Class: classes("ab"), Next: rows{{-1, 1}, {-1, 2}, {-1, -1}}, Mark: []int{-1, -1, 0}}},
		{"a|b|ab", api.DFA{Class: classes("a", "b"), Next: rows{{-1, 1, 2}, {-1, -1, 2}, {-1, -1, -1}}, Mark: []int{-1, 0, 0}}},
		{`\x00\xff`, api.DFA{Class: classes("\x00", "\xff"), Next: rows{{1, -1, -1}, {-1, -1, 2}, {-1, -1, -1}}, Mark: []int{-1, -1, 0}}},
	} {
		if got := one(t, c.text); !equal(got, c.want) {
			t.Errorf("%s: %s, want %s", c.text, told(got), told(c.want))
		}
	}
}

// P11.1: the automaton is the minimal one, and has exactly the strings of the expression.
func TestOneOfManyExpressions(t *testing.T) {
	x := source(5)
	all := texts("abcz", 5)
	for range 400 {
		s := expression(&x, 4)
		got := one(t, s)
		if want := smallest(t, single(t, s)); !equal(got, want) {
			t.Fatalf("%s: %s, want %s", s, told(got), told(want))
		}
		m := matcher(s)
		for _, text := range all {
			if mark := markOf(got, text); m.MatchString(text) != (mark == 0) || mark < -1 || mark > 0 {
				t.Fatalf("%s: %q has the mark %d", s, text, mark)
			}
		}
	}
}

// P11.1: expressions of the same strings have the same automaton.
func TestOneIsTheSameForTheSameStrings(t *testing.T) {
	for _, same := range [][]string{
		{"(a|b)*abb", "[ab]*abb", "(a*b*)*abb", "((a|b)(a|b))*((a|b)|~)abb"},
		{"a+", "aa*", "a*a", "a|aa+"},
		{"[a-c]", "a|b|c", "c|[ab]", `\x61|\x62|\x63`},
		{"if|do", "do|if", "(i|~~i)f|do|do"},
	} {
		want := one(t, same[0])
		for _, s := range same {
			if got := one(t, s); !equal(got, want) {
				t.Errorf("%s: %s, but %s: %s", s, told(got), same[0], told(want))
			}
		}
	}
}

// P11.1: the errors of rex.Parse, and ErrBig if there are too many states.
func TestErrorsOfOne(t *testing.T) {
	for i, s := range append(broken(), tooBig()...) {
		want := api.ErrRegex
		if i >= len(broken()) {
			want = api.ErrBig
		}
		if d, err := rules.One(s); err != want || !zero(d) {
			t.Errorf("%.50q: error %d, want %d, and %s", s, err, want, told(d))
		}
	}
	for _, s := range emptied() {
		if d, err := rules.One(s); err != api.OK || markOf(d, "") != 0 {
			t.Errorf("%.50q: error %d, %s", s, err, told(d))
		}
	}
}

// P11.1: bounds of the text and of the expression that are not exceeded.
func TestOneAtTheBounds(t *testing.T) {
	long := "[" + strings.Repeat("a", 1598) + "]" // 1600 bytes
	if got := one(t, long); !equal(got, one(t, "a")) {
		t.Error(told(got))
	}
	if got := one(t, strings.Repeat("a", 200)); len(got.Next) != 201 {
		t.Error(told(got))
	}
	if got := one(t, window("", 9)); len(got.Next) != 1024 {
		t.Error(told(got))
	}
	deep := strings.Repeat("(", 99) + "a" + strings.Repeat(")", 99)
	if got := one(t, deep); !equal(got, one(t, "a")) {
		t.Error(told(got))
	}
}

// P11.1: ErrBig exactly if subset returns that, be the minimal automaton as small as may be.
func TestOneOfManyStates(t *testing.T) {
	seen := map[api.Errno]int{}
	for letters := range 120 {
		s := strings.Join([]string{window("c", 9), window("d", 8), window("e", 7), window("f", 6), "g" + strings.Repeat("h", letters)}, "|")
		_, want := subset.One(automaton(t, s))
		if d, err := rules.One(s); err != want || zero(d) != (want != api.OK) {
			t.Errorf("%d letters: error %d, want %d, and %s", letters, err, want, told(d))
		}
		seen[want]++
	}
	if seen[api.OK] == 0 || seen[api.ErrBig] == 0 {
		t.Errorf("by errors: %v", seen)
	}
	if d, err := rules.One("[ab]+|" + window("", 10)); err != api.ErrBig || !zero(d) { // a shorter expression has the same strings
		t.Errorf("error %d, %s", err, told(d))
	}
}

// checked checks what Check returns, and that Machine returns the same error.
func checked(t *testing.T, what string, l []api.Rule, wantAt int, want api.Errno) {
	t.Helper()
	if at, err := rules.Check(l); at != wantAt || err != want {
		t.Errorf("%s: %d with error %d, want %d with %d", what, at, err, wantAt, want)
	}
	if d, err := rules.Machine(l); want != api.OK && (err != want || !zero(d)) {
		t.Errorf("%s: Machine returns error %d, want %d, and %s", what, err, want, told(d))
	}
}

// P11.1: valid rules, up to the bounds.
func TestCheckOfValidRules(t *testing.T) {
	for n := range 61 {
		var l []api.Rule
		for i := range n {
			l = append(l, api.Rule{Name: fmt.Sprintf("R%d", i), Kind: i % 3, Regex: "[a-z]+"})
		}
		checked(t, fmt.Sprintf("%d rules", n), l, n, api.OK)
	}
	checked(t, "names", []api.Rule{
		{Name: "a", Regex: "a"}, {Name: "A", Regex: "a"}, {Name: "_", Regex: "a"}, {Name: "__", Regex: "a"}, {Name: "a1", Regex: "a"}, {Name: "a_1Z", Regex: "a"}, {Name: "aa", Regex: "a"},
		{Name: strings.Repeat("n", 39), Regex: "a"}, {Name: strings.Repeat("n", 40), Regex: "a"}, {Name: "Z" + strings.Repeat("9", 39), Regex: "a"},
	}, 10, api.OK)
	checked(t, "kinds", []api.Rule{{Name: "A", Kind: api.Main, Regex: "a"}, {Name: "B", Kind: api.Skip, Regex: "b"}, {Name: "C", Kind: api.Comment, Regex: "c"}}, 3, api.OK)
	for _, s := range []string{"a", ".", "a+", "~a", "a|bc", "(a|~)b", "a*b?c", strings.Repeat("a", 200), window("", 9), "[" + strings.Repeat("b", 1598) + "]"} {
		checked(t, fmt.Sprintf("%.50q", s), []api.Rule{{Name: "A", Regex: s}}, 1, api.OK)
	}
}

// P11.1: more rules than there may be, whatever is wrong with them besides.
func TestCheckOfTooManyRules(t *testing.T) {
	for _, n := range []int{61, 62, 100, 1000, 100_000} {
		good := api.Rule{Regex: "a"}
		l := slices.Repeat([]api.Rule{good}, n)
		for i := range l {
			l[i].Name = fmt.Sprintf("R%d", i)
		}
		checked(t, fmt.Sprintf("%d rules", n), l, n, api.ErrBig)
		for _, f := range faults() {
			l[0] = f.rule
			checked(t, f.what, l, n, api.ErrBig)
		}
		checked(t, "invalid rules only", make([]api.Rule, n), n, api.ErrBig)
	}
}

// P11.1: each fault by itself, at each place of lists.
func TestCheckOfEachFault(t *testing.T) {
	for _, f := range faults() {
		for _, n := range []int{2, 3, 5} {
			for at := 1; at < n; at++ {
				l := named(slices.Repeat([]string{"[a-z]"}, n)...)
				l[0].Name = "A"
				l[at] = f.rule
				checked(t, f.what, l, at, f.err)
			}
		}
		l := named(slices.Repeat([]string{"[a-z]"}, 60)...)
		l[31].Name = "A"
		l[59] = f.rule
		checked(t, f.what, l, 59, f.err)
		if f.err != api.ErrTwice {
			checked(t, f.what, []api.Rule{f.rule}, 0, f.err)
		} else {
			checked(t, f.what, []api.Rule{f.rule}, 1, api.OK)
		}
	}
}

// P11.1: the first invalid rule counts, whatever is wrong with those behind it.
func TestCheckReturnsTheFirstInvalidRule(t *testing.T) {
	for _, f := range faults() {
		if f.err == api.ErrBig {
			continue // only what does not take long
		}
		for _, g := range faults() {
			l := []api.Rule{{Name: "Z", Regex: "z"}, {Name: "A", Regex: "a"}, f.rule, {Name: "Y", Regex: "y"}, g.rule}
			checked(t, f.what+" ahead of "+g.what, l, 2, f.err)
		}
	}
}

// P11.1: of several faults of one rule, the one that the chapter mentions first counts.
func TestCheckReturnsTheFirstFaultOfARule(t *testing.T) {
	bad := map[string]func(rule *api.Rule){
		"name":  func(rule *api.Rule) { rule.Name = "9" },
		"twice": func(rule *api.Rule) { rule.Name = "A" },
		"kind":  func(rule *api.Rule) { rule.Kind = 3 },
		"none":  func(rule *api.Rule) { rule.Regex = "(" },
		"long":  func(rule *api.Rule) { rule.Regex = strings.Repeat("(", 1601) },
		"big":   func(rule *api.Rule) { rule.Regex = strings.Repeat("~", 201) },
		"many":  func(rule *api.Rule) { rule.Regex = window("(", 10) + ")?" },
		"empty": func(rule *api.Rule) { rule.Regex = "a*" },
	}
	for _, c := range []struct {
		faults string
		err    api.Errno
	}{
		{"name kind none", api.ErrName}, {"name kind empty", api.ErrName}, {"name long", api.ErrName}, {"name many", api.ErrName}, {"name kind", api.ErrName}, {"name empty", api.ErrName},
		{"twice kind none", api.ErrTwice}, {"twice kind empty", api.ErrTwice}, {"twice big", api.ErrTwice}, {"twice many", api.ErrTwice}, {"twice kind", api.ErrTwice}, {"twice empty", api.ErrTwice}, {"twice none", api.ErrTwice},
		{"kind none", api.ErrArg}, {"kind long", api.ErrArg}, {"kind big", api.ErrArg}, {"kind many", api.ErrArg}, {"kind empty", api.ErrArg},
		{"long", api.ErrBig}, {"big", api.ErrBig}, {"many", api.ErrBig}, {"none", api.ErrRegex}, {"empty", api.ErrEmptied},
	} {
		rule := api.Rule{Name: "B", Regex: "b"}
		for _, what := range strings.Fields(c.faults) {
			bad[what](&rule)
		}
		checked(t, c.faults, []api.Rule{{Name: "A", Regex: "a"}, rule, {Name: "B", Regex: "("}}, 1, c.err)
	}
}

// P11.1: rules with the name of an earlier one, whatever their kinds and expressions.
func TestCheckOfNames(t *testing.T) {
	named := func(names ...string) []api.Rule {
		var l []api.Rule
		for i, name := range names {
			l = append(l, api.Rule{Name: name, Kind: i % 3, Regex: strings.Repeat("a", i+1)})
		}
		return l
	}
	for _, c := range []struct {
		names string
		at    int
		err   api.Errno
	}{
		{"A A", 1, api.ErrTwice},
		{"A B A", 2, api.ErrTwice},
		{"A B B A", 2, api.ErrTwice},
		{"A B C D E B", 5, api.ErrTwice},
		{"A a", 2, api.OK},
		{"A AA AAA A_ A1", 5, api.OK},
		{"AA A AA", 2, api.ErrTwice},
		{"A 9 9 A", 1, api.ErrName},
		{"9 9", 0, api.ErrName},
	} {
		checked(t, c.names, named(strings.Fields(c.names)...), c.at, c.err)
	}
}

// P11.3: the first rule with a name, be it valid or not.
func TestFind(t *testing.T) {
	l := []api.Rule{{Name: "A"}, {Name: "B", Kind: 77}, {Name: "A", Regex: "x"}, {Name: "9 -"}, {Name: "AB", Kind: api.Skip}, {Name: ""}, {Name: "B"}, {}}
	for name, want := range map[string]int{"A": 0, "B": 1, "9 -": 3, "AB": 4, "": 5, "a": -1, "C": -1, "ABC": -1, " A": -1, "A\x00": -1, "x": -1} {
		if got := rules.Find(l, name); got != want {
			t.Errorf("Find of %q: %d, want %d", name, got, want)
		}
		if got := rules.Find(nil, name); got != -1 {
			t.Errorf("Find of %q among no rules: %d", name, got)
		}
	}
	if got := rules.Find(l[:5], ""); got != -1 {
		t.Errorf("Find of the empty name: %d", got)
	}
	many := slices.Repeat([]api.Rule{{Name: "A"}}, 5000)
	many[4999].Name, many[4000].Name = "B", "B"
	if got := rules.Find(many, "B"); got != 4000 {
		t.Errorf("Find among many rules: %d", got)
	}
}

// P11.3: the kinds of all rules, be they valid or not.
func TestKinds(t *testing.T) {
	var l []api.Rule
	want := append(odd(), 0, 1, 2, 2, 1, 0, 0)
	for i, kind := range want {
		l = append(l, api.Rule{Name: "A", Kind: kind, Regex: strings.Repeat("(", i)})
	}
	for n := range len(l) + 1 {
		if got := rules.Kinds(l[:n]); !slices.Equal(got, want[:n]) {
			t.Errorf("%v, want %v", got, want[:n])
		}
	}
	if got := rules.Kinds(nil); len(got) != 0 {
		t.Errorf("%v of no rules", got)
	}
	if got := rules.Kinds(make([]api.Rule, 5000)); !slices.Equal(got, make([]int, 5000)) {
		t.Errorf("%d of many rules", len(got))
	}
}

// P11.3: the set of four bytes.
func TestBlanks(t *testing.T) {
	s := rules.Blanks()
	for b := range 256 {
		if is := b == 32 || b == 10 || b == 9 || b == 13; is != (s[b/64]>>(b%64)&1 == 1) {
			t.Errorf("the byte %d is told wrongly", b)
		}
	}
}

// The example of the chapter.
func TestTheExample(t *testing.T) {
	d := machine(t, []api.Rule{{Name: "IF", Regex: "if"}, {Name: "ID", Regex: "[a-z]+"}})
	for text, want := range map[string]int{"if": 0, "ifs": 1, "i": 1, "f": 1, "fi": 1, "": -1, "If": -1, "if ": -1} {
		if got := dfa.Has(d, text); got != want {
			t.Errorf("%q has the mark %d, want %d", text, got, want)
		}
	}
}
