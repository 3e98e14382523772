package dfa

import (
	"slices"

	"bosket/api"
)

// Reached returns, for each state, whether some string leads to it from the given one. Nothing is reached from a state that does not exist.
func Reached(d api.DFA, from int) []bool {
	if !Right(d) {
		return nil
	}
	if !exists(d, from) {
		return make([]bool, len(d.Next))
	}
	return flags(len(d.Next), walk(d.Next, from))
}

// Alive returns, for each state, whether some string leads from it to a state with a mark.
func Alive(d api.DFA) []bool {
	if !Right(d) {
		return nil
	}
	var marked []int
	for state, mark := range d.Mark {
		if mark != unmarked {
			marked = append(marked, state)
		}
	}
	return flags(len(d.Next), walk(sources(d), marked...))
}

// Trim returns an automaton in which nothing leads to states that are not Alive any more. These states stay.
func Trim(d api.DFA) api.DFA {
	if !Right(d) {
		return api.DFA{}
	}
	alive := Alive(d)
	trimmed := api.DFA{Class: d.Class, Mark: slices.Clone(d.Mark)}
	for _, row := range d.Next {
		trimmed.Next = append(trimmed.Next, moved(row, func(to int) int {
			if alive[to] {
				return to
			}
			return Dead
		}))
	}
	return trimmed
}

// Order returns an automaton of only those states that are reached from 0, numbered in the order in which they are met, state by state and class by class.
func Order(d api.DFA) api.DFA {
	if !Right(d) {
		return api.DFA{}
	}
	met := walk(d.Next, 0)
	numbers := make([]int, len(d.Next))
	for number, state := range met {
		numbers[state] = number
	}
	ordered := api.DFA{Class: d.Class}
	for _, state := range met {
		ordered.Mark = append(ordered.Mark, d.Mark[state])
		ordered.Next = append(ordered.Next, moved(d.Next[state], func(to int) int { return numbers[to] }))
	}
	return ordered
}

// moved returns a new row, with other states instead of those of a row.
func moved(row []int, other func(state int) int) []int {
	l := make([]int, len(row))
	for class, to := range row {
		l[class] = Dead
		if to != Dead {
			l[class] = other(to)
		}
	}
	return l
}

// walk returns the given states and all that are reached from them, in the order in which they are met. The lists tell, for each state, to which ones it leads.
func walk(lists [][]int, from ...int) []int {
	met := slices.Clone(from)
	seen := flags(len(lists), met)
	for i := 0; i < len(met); i++ { // the list grows meanwhile
		for _, to := range lists[met[i]] {
			if to != Dead && !seen[to] {
				seen[to] = true
				met = append(met, to)
			}
		}
	}
	return met
}

// sources returns, for each state, those that lead to it.
func sources(d api.DFA) [][]int {
	lists := make([][]int, len(d.Next))
	for from, row := range d.Next {
		for _, to := range row {
			if to != Dead && !endsWith(lists[to], from) { // many classes of a state may lead to the same one
				lists[to] = append(lists[to], from)
			}
		}
	}
	return lists
}

// endsWith reports whether a state is the last one of a list.
func endsWith(l []int, state int) bool { return len(l) > 0 && l[len(l)-1] == state }

// flags returns, for each of so many states, whether it is in a list.
func flags(states int, list []int) []bool {
	in := make([]bool, states)
	for _, state := range list {
		in[state] = true
	}
	return in
}
