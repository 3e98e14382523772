package nfa

import (
	"bosket/api"
	"bosket/byteset"
)

// narrow returns an automaton that has only the states that First, Last and the edges name, numbered anew, and by their new numbers the numbers that they had. An automaton may have far more states than that, even more than can be listed.
func narrow(n api.NFA) (api.NFA, []int) {
	var names []int
	numbers := map[int]int{}
	number := func(state int) int {
		k, known := numbers[state]
		if !known {
			k = len(names)
			numbers[state] = k
			names = append(names, state)
		}
		return k
	}
	small := api.NFA{First: number(n.First), Last: number(n.Last)}
	for _, e := range n.Edges {
		e.From, e.To = number(e.From), number(e.To)
		small.Edges = append(small.Edges, e)
	}
	small.States = len(names)
	return small, names
}

// A walk goes through an automaton, in all states at once in which it may be.
type walk struct {
	free  [][]int      // by the states: where Free edges lead
	bytes [][]api.Edge // by the states: the other edges
	in    []bool       // by the states: whether the walk is there
	list  []int        // the states where it is
	spare []int        // the list before that: its room is used again
}

// newWalk returns a walk that is in no state yet.
func newWalk(n api.NFA) *walk {
	w := &walk{free: make([][]int, n.States), bytes: make([][]api.Edge, n.States), in: make([]bool, n.States)}
	for _, e := range n.Edges {
		if e.Free {
			w.free[e.From] = append(w.free[e.From], e.To)
		} else {
			w.bytes[e.From] = append(w.bytes[e.From], e)
		}
	}
	return w
}

func (w *walk) enter(state int) {
	if !w.in[state] {
		w.in[state] = true
		w.list = append(w.list, state)
	}
}

// followFree enters all states to which Free edges lead.
func (w *walk) followFree() {
	for i := 0; i < len(w.list); i++ { // the list grows meanwhile
		for _, to := range w.free[w.list[i]] {
			w.enter(to)
		}
	}
}

// followByte leaves all states, and enters those to which edges for the byte lead.
func (w *walk) followByte(b byte) {
	before := w.list
	for _, state := range before {
		w.in[state] = false
	}
	w.list = w.spare[:0]
	for _, state := range before {
		for _, e := range w.bytes[state] {
			if byteset.Has(e.Set, b) {
				w.enter(e.To)
			}
		}
	}
	w.spare = before
}
