package rules_test

import (
	"math"
	"slices"
	"strings"
	"testing"

	"bosket/api"
	"bosket/rules"
)

// samples returns rules of all kinds, invalid ones too.
func samples() [][]api.Rule {
	l := [][]api.Rule{nil, {}, {{}}, make([]api.Rule, 61), named("a*"), named(window("", 9), window("x", 9))}
	for _, f := range faults() {
		l = append(l, []api.Rule{{Name: "A", Regex: "a|b"}, f.rule, {Name: "C", Regex: "c"}})
	}
	return append(l, lists(19, 60, 3)...)
}

// wrong returns automata for which Right does not hold.
func wrong() []api.DFA {
	return []api.DFA{
		{}, {Next: rows{nil}}, {Mark: []int{3, 4}}, {Next: rows{{0}, {1}, nil, {2, 3}}, Mark: []int{4}},
		plain(rows{{-1, -1, -1}}, -2), plain(rows{{-1, -1, -1}}, 1<<15), plain(rows{{-1, -1, 1}}, 0), plain(rows{{-1, math.MinInt, math.MaxInt}}, 0),
		plain(rows{{0, 0}}, 0), plain(rows{{0, 0, 0, 0}}, 0), plain(rows{{0, 0, 0}}, 0, 1), plain(rows{{0, 0, 0}}),
		{Class: [256]uint8{255: 255}, Next: rows{slices.Repeat([]int{0}, 256)}, Mark: []int{0}},
	}
}

// P1: every call ends and does not panic.
func TestEveryCallEnds(t *testing.T) {
	for _, l := range samples() {
		ask(l)
	}
	for _, s := range slices.Concat(broken(), tooBig(), emptied(), []string{strings.Repeat("a", 1<<20), strings.Repeat("(", 1<<20)}) {
		rules.One(s)
		ask([]api.Rule{{Name: s, Regex: s}, {Name: "A", Regex: s}})
	}
	for _, d := range append(wrong(), nothing()) {
		for _, n := range []int{math.MinInt, -1, 0, 1, 5, math.MaxInt32 + 2, 1 << 40, math.MaxInt - 1, math.MaxInt} {
			rules.Hidden(d, n)
		}
	}
}

// P1: short texts of the bytes that mean something in expressions.
func TestOneOfAllShortTexts(t *testing.T) {
	for _, s := range texts(`a|*()[]^-.~\x`, 4) {
		d, err := rules.One(s)
		if zero(d) != (err != api.OK) {
			t.Fatalf("%q: error %d, %s", s, err, told(d))
		}
	}
}

// P1: rules whose states are many and lead to very many states without reading anything.
func TestMachineOfBigRules(t *testing.T) {
	l := []string{window("", 8), strings.Repeat("ab", 100)}
	for len(l) < 60 {
		l = append(l, ".."+strings.Repeat("+", 397))
	}
	d := machine(t, named(l...))
	for text, want := range map[string]int{strings.Repeat("ab", 100): 1, "ab": 2, "x": -1, "": -1, "abbbbbbbb": 0, "xabbbbbbbb": 2} {
		if got := markOf(d, text); got != want {
			t.Errorf("%.50q has the mark %d, want %d", text, got, want)
		}
	}
}

// answers are what all functions return for one list of rules.
type answers struct {
	d, one        api.DFA
	at, find      int
	err, checked  api.Errno
	kinds, hidden []int
}

func ask(l []api.Rule) answers {
	var a answers
	a.d, a.err = rules.Machine(l)
	a.at, a.checked = rules.Check(l)
	a.find, a.kinds = rules.Find(l, "C"), rules.Kinds(l)
	a.hidden = rules.Hidden(a.d, len(l)+3)
	if len(l) > 0 {
		a.one, _ = rules.One(l[0].Regex)
	}
	return a
}

func (a answers) same(b answers) bool {
	return equal(a.d, b.d) && equal(a.one, b.one) && a.at == b.at && a.find == b.find && a.err == b.err && a.checked == b.checked &&
		slices.Equal(a.kinds, b.kinds) && slices.Equal(a.hidden, b.hidden)
}

// copied returns answers that share nothing with these.
func (a answers) copied() answers {
	a.d, a.one, a.kinds, a.hidden = clone(a.d), clone(a.one), slices.Clone(a.kinds), slices.Clone(a.hidden)
	return a
}

// spoil overwrites all elements of a list, those behind its length too.
func spoil[T any](l []T, with T) {
	l = l[:cap(l)]
	for i := range l {
		l[i] = with
	}
}

// spoil overwrites everything that the answers hold.
func (a answers) spoil() {
	for _, d := range []api.DFA{a.d, a.one} {
		for _, row := range d.Next {
			spoil(row, 77)
		}
		spoil(d.Next, nil)
		spoil(d.Mark, 77)
	}
	spoil(a.kinds, 77)
	spoil(a.hidden, 77)
}

// P2, rule 4: arguments are neither modified nor kept, not even behind their lengths, and results are new.
func TestArgumentsStayAsTheyAre(t *testing.T) {
	for _, sample := range samples() {
		all := append(slices.Clone(sample), api.Rule{Name: "C", Regex: "c"}, api.Rule{Name: "A"}, api.Rule{Kind: 9})
		before := slices.Clone(all)
		l := all[:len(sample)]

		first := ask(l)
		want := first.copied()
		first.spoil()
		if !slices.Equal(all, before) {
			t.Fatalf("rules have changed: %v, before %v", all, before)
		}
		again := ask(l)
		spoil(all, api.Rule{Name: "X", Kind: 2, Regex: "x"})
		if !again.same(want) {
			t.Fatalf("what was told of %s has changed", regexes(sample))
		}
	}
}

// P2, rule 4: Hidden neither modifies its automaton nor keeps it.
func TestHiddenLeavesTheAutomaton(t *testing.T) {
	x := source(21)
	for range 200 {
		d := some(&x)
		before := clone(d)
		got := rules.Hidden(d, 9)
		want := slices.Clone(got)
		if !equal(d, before) {
			t.Fatalf("%s, before %s", told(d), told(before))
		}
		for _, row := range d.Next {
			spoil(row, 0)
		}
		spoil(d.Mark, 0)
		if !slices.Equal(got, want) {
			t.Fatalf("%v, before %v", got, want)
		}
	}
}

// P2, rule 4: no two lists of a result share anything, not even behind their lengths.
func TestListsOfAResultShareNothing(t *testing.T) {
	for _, d := range []api.DFA{machine(t, named("if|do", "[a-z]+", "[a-z0-9]+", " +")), one(t, "(a|b)*abb"), machine(t, nil)} {
		want := clone(d)
		for i := range d.Next {
			spoil(d.Next[i], 77)
			for k, row := range d.Next {
				if k > i && !slices.Equal(row, want.Next[k]) {
					t.Fatalf("the row %d has changed with the row %d", k, i)
				}
			}
			if !slices.Equal(d.Mark, want.Mark) {
				t.Fatalf("the marks have changed with the row %d", i)
			}
		}
	}
}

// P2: a call answers the same, whatever was called before, and calls that failed are not to be noticed.
func TestCallsAnswerTheSameAgain(t *testing.T) {
	all := samples()
	var before []answers
	for _, l := range all {
		before = append(before, ask(l))
	}
	for i, l := range slices.Backward(all) {
		if !ask(l).same(before[i]) {
			t.Fatalf("other answers for %s", regexes(l))
		}
	}
}
