package dfa_test

import (
	"math"
	"slices"
	"testing"

	"bosket/api"
	"bosket/dfa"
)

// same checks what is told of two automata, either way round.
func same(t *testing.T, a, b api.DFA, want bool) {
	t.Helper()
	if dfa.Same(a, b) != want || dfa.Same(b, a) != want {
		t.Errorf("Same is not %v: %s, and %s", want, told(a), told(b))
	}
}

// P8.1: an automaton is the same as another one that is equal, whether Right holds or not.
func TestSameAsItsEqual(t *testing.T) {
	all := wild()
	all = append(all, good(), chain(1), chain(1<<15))
	for _, f := range faults() {
		all = append(all, f.d)
	}
	for _, d := range all {
		same(t, d, d, true)
		same(t, d, clone(d), true)
	}
	same(t, api.DFA{}, api.DFA{Next: rows{}, Mark: []int{}}, true)
	same(t, api.DFA{Next: rows{nil, {}}}, api.DFA{Next: rows{{}, nil}}, true)
}

// P8.1: one difference is enough.
func TestSameNotWithOneDifference(t *testing.T) {
	d := good()
	differs := func(change func(d *api.DFA)) {
		t.Helper()
		other := clone(d)
		change(&other)
		same(t, d, other, false)
	}
	for b := range 256 {
		differs(func(d *api.DFA) { d.Class[b] ^= 3 })
		differs(func(d *api.DFA) { d.Class[b] += 128 })
	}
	for state := range 3 {
		for _, x := range []int{-3, 9, math.MinInt, math.MaxInt} {
			differs(func(d *api.DFA) { d.Mark[state] = x })
			for class := range 3 {
				differs(func(d *api.DFA) { d.Next[state][class] = x })
			}
		}
		differs(func(d *api.DFA) { d.Next[state] = d.Next[state][:2] })
		differs(func(d *api.DFA) { d.Next[state] = append(d.Next[state], -1) })
		differs(func(d *api.DFA) { d.Next[state] = nil })
	}
	differs(func(d *api.DFA) { d.Next = append(d.Next, nil) })
	differs(func(d *api.DFA) { d.Next = append(d.Next, []int{-1, -1, -1}) })
	differs(func(d *api.DFA) { d.Next = d.Next[:2] })
	differs(func(d *api.DFA) { d.Next = nil })
	differs(func(d *api.DFA) { d.Mark = append(d.Mark, -1) })
	differs(func(d *api.DFA) { d.Mark = d.Mark[:2] })
	differs(func(d *api.DFA) { d.Mark = nil })
	differs(func(d *api.DFA) { d.Next, d.Mark = d.Next[:2], d.Mark[:2] })
	differs(func(d *api.DFA) { slices.Reverse(d.Mark) })
	differs(func(d *api.DFA) { slices.Reverse(d.Next) })
}

// P8.1: automata with the same marks for all strings are not the same if their states or classes are numbered otherwise.
func TestSameNotWithOtherNumbers(t *testing.T) {
	a := plain(rows{{-1, 1, 2}, {-1, 0, -1}, {-1, 0, -1}}, 0, 1, 1)
	b := plain(rows{{-1, 2, 1}, {-1, 0, -1}, {-1, 0, -1}}, 0, 1, 1)
	c := api.DFA{Class: replaced(replaced(replaced(a.Class, 1, 9), 2, 1), 9, 2), Next: rows{{-1, 2, 1}, {-1, -1, 0}, {-1, -1, 0}}, Mark: a.Mark}
	same(t, a, b, false)
	same(t, a, c, false)
	for _, s := range texts("abx", 4) {
		if dfa.Has(a, s) != dfa.Has(b, s) || dfa.Has(a, s) != dfa.Has(c, s) {
			t.Errorf("other marks for %q", s)
		}
	}
	same(t, a, plain(append(clone(a).Next, []int{-1, -1, -1}), 0, 1, 1, -1), false) // nor with one more state that is not reached
}

// P8.1: Same holds all small automata against each other.
func TestSameOfSmallAutomata(t *testing.T) {
	var all []api.DFA
	for d := range small() {
		if len(d.Next) < 3 && len(d.Next)*len(d.Next[0]) < 4 {
			all = append(all, d)
		}
	}
	for i, a := range all {
		for k, b := range all {
			if dfa.Same(a, b) != (i == k) {
				t.Fatalf("Same is not %v: %s, and %s", i == k, told(a), told(b))
			}
		}
	}
}
