package rules_test

import (
	"fmt"
	"math"
	"slices"
	"strings"
	"testing"

	"bosket/api"
	"bosket/dfa"
	"bosket/mini"
	"bosket/nfa"
	"bosket/rules"
	"bosket/subset"
)

// P11.2: plain rules.
func TestMachine(t *testing.T) {
	for _, c := range []struct {
		regexes []string
		want    api.DFA
	}{
		{nil, nothing()},
		{[]string{"a"}, api.DFA{Class: classes("a"), Next: rows{{-1, 1}, {-1, -1}}, Mark: []int{-1, 0}}},
		{[]string{"a", "b"}, api.DFA{Class: classes("a", "b"), Next: rows{{-1, 1, 2}, {-1, -1, -1}, {-1, -1, -1}}, Mark: []int{-1, 0, 1}}},
		{[]string{"b", "a"}, api.DFA{Class: classes("a", "b"), Next: rows{{-1, 1, 2}, {-1, -1, -1}, {-1, -1, -1}}, Mark: []int{-1, 1, 0}}},
		{[]string{"a", "a"}, api.DFA{Class: classes("a"), Next: rows{{-1, 1}, {-1, -1}}, Mark: []int{-1, 0}}},
		{[]string{"a", "a+"}, api.DFA{Class: classes("a"), Next: rows{{-1, 1}, {-1, 2}, {-1, 2}}, Mark: []int{-1, 0, 1}}},
		{[]string{"a+", "a"}, api.DFA{Class: classes("a"), Next: rows{{-1, 1}, {-1, 1}}, Mark: []int{-1, 0}}},
		{[]string{"a+", "aa", "b"}, api.DFA{Class: classes("a", "b"), Next: rows{{-1, 1, 2}, {-1, 1, -1}, {-1, -1, -1}}, Mark: []int{-1, 0, 2}}},
		{[]string{"ab", "aa", ".."}, api.DFA{Class: classes("a", "b"), Next: rows{{1, 2, 1}, {3, 3, 3}, {3, 4, 5}, {-1, -1, -1}, {-1, -1, -1}, {-1, -1, -1}}, Mark: []int{-1, -1, -1, 2, 1, 0}}},
	} {
		if got := machine(t, named(c.regexes...)); !equal(got, c.want) {
			t.Errorf("%q: %s, want %s", c.regexes, told(got), told(c.want))
		}
	}
}

// P11.2: the mark of a string is the first rule whose expression contains it.
func TestMachineMarksTheFirstRule(t *testing.T) {
	all := texts("abcz", 5)
	for _, l := range lists(3, 200, 3) {
		d := machine(t, l)
		want := make([]int, len(all))
		for k := range want {
			want[k] = -1
		}
		for i, rule := range slices.Backward(l) {
			m := matcher(rule.Regex)
			for k, s := range all {
				if m.MatchString(s) {
					want[k] = i
				}
			}
		}
		for k, s := range all {
			if got := markOf(d, s); got != want[k] {
				t.Fatalf("%s: %q has the mark %d, want %d", regexes(l), s, got, want[k])
			}
		}
	}
}

// P11.2: the automaton is the minimal one of these marks, for all bytes.
func TestMachineIsTheMinimalAutomaton(t *testing.T) {
	for _, l := range append(lists(7, 120, 3), named(`[\x00-\x1f]+`, `\x00*\xff`, `[^a-z\x80]`, `.\xff.`), named("[a-z]+", "[a-z0-9]+", "0|[1-9][0-9]*", "if|else|while")) {
		var all []api.DFA
		for _, rule := range l {
			all = append(all, single(t, rule.Regex))
		}
		got, want := machine(t, l), smallest(t, side(all))
		if !equal(got, want) {
			t.Fatalf("%s: %s, want %s", regexes(l), told(got), told(want))
		}
		if !dfa.Right(got) || !equal(smallest(t, got), got) {
			t.Fatalf("%s: %s is not minimal", regexes(l), told(got))
		}
	}
}

// P11.2: neither names nor kinds change the automaton.
func TestMachineOfOtherNamesAndKinds(t *testing.T) {
	l := named("if", "[a-z]+", " +", "#[a-z]*")
	want := machine(t, l)
	for kind := range 3 {
		for i := range l {
			l[i].Name, l[i].Kind = fmt.Sprintf("other_%d_%d", kind, i), kind
		}
		if got := machine(t, l); !equal(got, want) {
			t.Errorf("kind %d: %s, want %s", kind, told(got), told(want))
		}
	}
}

// P11.2: as many rules as there may be, each with a mark.
func TestMachineOfManyRules(t *testing.T) {
	var all []string
	for i := range 60 {
		all = append(all, fmt.Sprintf("x%02d|y+", i))
	}
	d := machine(t, named(all...))
	for i := range 60 {
		if got := markOf(d, fmt.Sprintf("x%02d", i)); got != i {
			t.Errorf("the mark %d, want %d", got, i)
		}
	}
	if got := markOf(d, "yyy"); got != 0 {
		t.Errorf("the mark %d, want 0", got)
	}
	if got := rules.Hidden(d, 60); len(got) != 0 {
		t.Errorf("%v are hidden", got)
	}
	long := slices.Repeat([]string{strings.Repeat("a", 200)}, 60)
	if got := machine(t, named(long...)); !equal(got, one(t, long[0])) {
		t.Error(told(got))
	}
}

// P11.2: ErrBig exactly if subset.Of returns that, for rules none of which has too many states by itself.
func TestMachineOfManyStates(t *testing.T) {
	seen := map[api.Errno]int{}
	for letters := range 120 {
		l := named(window("c", 9), window("d", 8), window("e", 7), window("f", 6), "g"+strings.Repeat("h", letters))
		var automata []api.NFA
		for _, rule := range l {
			automata = append(automata, automaton(t, rule.Regex))
		}
		n, lasts := nfa.Union(automata...)
		marks := slices.Repeat([]int{-1}, n.States)
		for i, last := range lasts {
			marks[last] = i
		}
		d, want := subset.Of(n, marks)
		got, err := rules.Machine(l)
		if err != want {
			t.Errorf("%d letters: error %d, want %d", letters, err, want)
		}
		if want == api.OK && !equal(got, smallest(t, d)) || want != api.OK && !zero(got) {
			t.Errorf("%d letters: %s", letters, told(got))
		}
		if at, err := rules.Check(l); at != 5 || err != api.OK {
			t.Errorf("%d letters: Check returns %d and %d", letters, at, err)
		}
		seen[want]++
	}
	if seen[api.OK] == 0 || seen[api.ErrBig] == 0 {
		t.Errorf("by errors: %v", seen)
	}
}

// P11.2: ErrBig, however small the minimal automaton is.
func TestMachineOfManyStatesThatAreMerged(t *testing.T) {
	l := named("[abc]+", window("", 9), window("c", 9))
	if d, err := rules.Machine(l); err != api.ErrBig || !zero(d) {
		t.Errorf("error %d, %s", err, told(d))
	}
	if got, want := machine(t, l[:2]), one(t, "[abc]+"); !equal(got, want) {
		t.Errorf("%s, want %s", told(got), told(want))
	}
}

// P11.4: a rule takes no strings from those before it.
func TestRulesTakeNothingFromThoseBefore(t *testing.T) {
	all := texts("abcz", 4)
	for _, l := range lists(11, 120, 3) {
		d := nothing()
		for n := range len(l) + 1 {
			longer := machine(t, l[:n])
			for _, s := range all {
				before, after := markOf(d, s), markOf(longer, s)
				if before >= 0 && after != before || before < 0 && after >= 0 && after != n-1 {
					t.Fatalf("%s: %q has the mark %d, before rule %d came %d", regexes(l[:n]), s, after, n-1, before)
				}
			}
			d = longer
		}
	}
}

// plain returns an automaton over the classes a and b (1 and 2; all other bytes are of class 0).
func plain(next rows, mark ...int) api.DFA {
	return api.DFA{Class: classes("a", "b"), Next: next, Mark: mark}
}

// P11.3: plain automata.
func TestHidden(t *testing.T) {
	three := plain(rows{{-1, 1, 2}, {0, -1, 2}, {2, 2, -1}}, -1, 4, 1)
	for _, c := range []struct {
		d    api.DFA
		n    int
		want []int
	}{
		{three, 0, nil},
		{three, 1, []int{0}},
		{three, 2, []int{0}},
		{three, 4, []int{0, 2, 3}},
		{three, 5, []int{0, 2, 3}},
		{three, 7, []int{0, 2, 3, 5, 6}},
		{three, -1, nil},
		{three, math.MinInt, nil},
		{nothing(), 3, []int{0, 1, 2}},
		{nothing(), 0, nil},
		{plain(rows{{-1, -1, -1}}, 0), 1, nil},
		{plain(rows{{-1, -1, -1}}, 0), 2, []int{1}},
		{plain(rows{{-1, 1, -1}, {-1, -1, -1}, {0, 1, 2}}, 2, 0, 1), 3, []int{1}}, // no string leads to the last state
		{plain(rows{{-1, 1, -1}, {-1, -1, 2}, {0, 1, 2}}, 2, 0, 1), 3, nil},
		{plain(rows{{-1, -1, -1}, {0, 0, 0}}, -1, 0), 1, []int{0}},
		{plain(rows{{-1, 1, 1}, {-1, -1, 2}, {-1, -1, -1}}, 1, 1, 1), 3, []int{0, 2}},
		{plain(rows{{0, 0, 0}}, 1<<15-1), 1, []int{0}},
	} {
		if got := rules.Hidden(c.d, c.n); !slices.Equal(got, c.want) {
			t.Errorf("Hidden of %d: %v, want %v, for %s", c.n, got, c.want, told(c.d))
		}
	}
}

// P11.3: many numbers, and the greatest marks.
func TestHiddenOfManyNumbers(t *testing.T) {
	last := 1<<15 - 1
	d := api.DFA{Class: classes("a"), Next: make(rows, 1<<15), Mark: make([]int, 1<<15)}
	for state := range d.Next {
		d.Next[state] = []int{-1, min(state+1, last)}
		d.Mark[state] = last - state
	}
	for _, n := range []int{1, 60, last, last + 1} {
		if got := rules.Hidden(d, n); len(got) != 0 {
			t.Errorf("%d of %d are hidden", len(got), n)
		}
	}
	if got := rules.Hidden(d, last+4); !slices.Equal(got, []int{last + 1, last + 2, last + 3}) {
		t.Errorf("%v are hidden", got)
	}
	d.Mark[5], d.Next[last-3][1] = -1, -1 // the marks 0, 1 and 2 are those of no string
	if got := rules.Hidden(d, last+1); !slices.Equal(got, []int{0, 1, 2, last - 5}) {
		t.Errorf("%v are hidden", got)
	}
	got := rules.Hidden(nothing(), 1<<20)
	if len(got) != 1<<20 || got[0] != 0 || got[1<<19] != 1<<19 || !slices.IsSorted(got) {
		t.Errorf("%d are hidden", len(got))
	}
}

// some returns automata of up to 8 states for which Right holds, with marks up to 6, many states of which are not reached.
func some(x *source) api.DFA {
	d := plain(nil)
	states, dead := 1+x.below(8), 1+x.below(4)
	for range states {
		row := make([]int, 3)
		for class := range row {
			row[class] = max(-1, x.below(states*dead)-states*(dead-1))
		}
		d.Next, d.Mark = append(d.Next, row), append(d.Mark, x.below(8)-1)
	}
	return d
}

// P11.3: many automata, text by text: the texts of up to as many bytes as there are states lead to all that are reached.
func TestHiddenAgainstAModel(t *testing.T) {
	x := source(9)
	for range 300 {
		d := some(&x)
		seen := map[int]int{}
		for _, s := range texts("ab\x00", len(d.Next)-1) {
			seen[markOf(d, s)]++
		}
		for n := range 9 {
			var want []int
			for number := range n {
				if seen[number] == 0 {
					want = append(want, number)
				}
			}
			if got := rules.Hidden(d, n); !slices.Equal(got, want) {
				t.Fatalf("Hidden of %d: %v, want %v, for %s", n, got, want, told(d))
			}
		}
	}
}

// P11.2, P11.3: the rules that are hidden are those that may be left out.
func TestHiddenRulesMayBeLeftOut(t *testing.T) {
	for _, c := range []struct {
		regexes []string
		want    []int
	}{
		{[]string{"if|do", "[a-z]+", "do", " +"}, []int{2}},
		{[]string{"[a-z]+", "if", "do", "[a-z0-9]+"}, []int{1, 2}},
		{[]string{"a", "b", "a|b", "c"}, []int{2}},
		{[]string{"a", "b", "[a-c]"}, nil},
		{[]string{"a+", "(aa)+", "(aaa)+"}, []int{1, 2}},
		{[]string{"(aaa)+", "(aa)+", "a+"}, nil},
	} {
		l := named(c.regexes...)
		if got := rules.Hidden(machine(t, l), len(l)); !slices.Equal(got, c.want) {
			t.Errorf("%q: %v, want %v", c.regexes, got, c.want)
		}
	}
	for _, l := range lists(13, 150, 2) {
		d := machine(t, l)
		hidden := rules.Hidden(d, len(l))
		var left []api.Rule
		numbers := map[int]int{-1: -1} // what becomes of the marks
		for i, rule := range l {
			if !slices.Contains(hidden, i) {
				numbers[i] = len(left)
				left = append(left, rule)
			}
		}
		for state, mark := range d.Mark {
			d.Mark[state] = numbers[mark]
		}
		if got := machine(t, left); !equal(got, d) {
			t.Fatalf("%s: without %v, %s", regexes(l), hidden, told(got))
		}
		if got := rules.Hidden(d, len(left)); len(got) != 0 {
			t.Fatalf("%s: %v are hidden besides %v", regexes(l), got, hidden)
		}
	}
}

// P11.2: the automaton of one rule is that of its expression.
func TestMachineOfOneRule(t *testing.T) {
	x := source(17)
	for range 200 {
		s := solid(&x, 4)
		if got, want := machine(t, named(s)), one(t, s); !equal(got, want) {
			t.Fatalf("%s: %s, want %s", s, told(got), told(want))
		}
	}
	blocks := mini.Blocks(machine(t, named("(a|b)*abb", "(a|b)*b")))
	if slices.Max(blocks)+1 != len(blocks) {
		t.Errorf("blocks %v", blocks)
	}
}
