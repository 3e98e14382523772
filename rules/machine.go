package rules

import (
	"math"
	"slices"

	"bosket/api"
	"bosket/dfa"
	"bosket/mini"
	"bosket/nfa"
	"bosket/subset"
)

// unmarked is the mark of a state that has none.
const unmarked = -1

// Machine returns the minimal automaton of all rules: the mark of a string is the number of the first rule that has it. It returns the errors of Check; ErrBig: there are too many states, be it before the automaton is minimized.
func Machine(l []api.Rule) (api.DFA, api.Errno) {
	if _, err := Check(l); err != api.OK {
		return api.DFA{}, err
	}
	d, err := subset.Of(sideBySide(l)) // of several marks it takes the smallest one, and so the first rule
	if err != api.OK {
		return api.DFA{}, err
	}
	return mini.Of(d)
}

// sideBySide returns one automaton of all rules, each of which can be read, and the marks of its states: where the strings of a rule end, the number of that rule.
func sideBySide(l []api.Rule) (api.NFA, []int) {
	var automata []api.NFA
	for _, rule := range l {
		n, _ := expressed(rule.Regex)
		automata = append(automata, n)
	}
	all, lasts := nfa.Union(automata...)
	marks := slices.Repeat([]int{unmarked}, all.States)
	for number, last := range lasts {
		marks[last] = number
	}
	return all, marks
}

// Hidden returns the numbers from 0 to n-1 that are the mark of no string. If an automaton is that of n rules, these are the rules all of whose strings are those of rules before them.
func Hidden(d api.DFA, n int) []int {
	if !dfa.Right(d) {
		return nil
	}
	shown := marksBelow(d, n)
	count := n - len(shown)
	if count <= 0 || count > math.MaxInt32 { // the document promises nothing for longer results, but a call must not panic
		return nil
	}
	hidden := make([]int, 0, count)
	for number := range n {
		if _, is := shown[number]; !is {
			hidden = append(hidden, number)
		}
	}
	return hidden
}

// marksBelow returns the marks below n that some string has.
func marksBelow(d api.DFA, n int) map[int]struct{} {
	marks := map[int]struct{}{}
	for state, reached := range dfa.Reached(d, 0) {
		if mark := dfa.Mark(d, state); reached && mark != unmarked && mark < n {
			marks[mark] = struct{}{}
		}
	}
	return marks
}
