package mini

import (
	"maps"
	"slices"

	"bosket/api"
	"bosket/byteset"
	"bosket/dfa"
)

// divided returns the block of each state, and behind them that of nowhere, which counts as a state without a mark that leads to itself. The numbers of the blocks are in no order.
func divided(d api.DFA) []int {
	p := whole(len(d.Next) + 1)
	for _, states := range byMark(d) {
		p.divide(states)
	}
	var back []reverse
	for class := range byteset.Count(d.Class) {
		back = append(back, backwards(d, class))
	}
	var sources []int
	for targets := p.take(); targets != nil; targets = p.take() {
		for _, r := range back {
			sources = r.add(sources[:0], targets)
			p.divide(sources)
		}
	}
	return p.block
}

// byMark returns the states of each mark.
func byMark(d api.DFA) [][]int {
	states := map[int][]int{}
	for state, mark := range d.Mark {
		if mark >= 0 {
			states[mark] = append(states[mark], state)
		}
	}
	var l [][]int
	for _, mark := range slices.Sorted(maps.Keys(states)) {
		l = append(l, states[mark])
	}
	return l
}

// none stands behind the last source of a state.
const none = -1

// A reverse tells for one class which states lead to a state: first tells one of them, and next tells, for each of them, another one. Nowhere counts as a state, behind all others.
type reverse struct {
	first, next []int
}

// backwards returns the reverse of one class.
func backwards(d api.DFA, class int) reverse {
	nowhere := len(d.Next)
	r := reverse{
		first: slices.Repeat([]int{none}, nowhere+1),
		next:  slices.Repeat([]int{none}, nowhere+1),
	}
	link := func(from, to int) { r.next[from], r.first[to] = r.first[to], from }
	for from, row := range d.Next {
		to := row[class]
		if to == dfa.Dead {
			to = nowhere
		}
		link(from, to)
	}
	link(nowhere, nowhere)
	return r
}

// add adds the states that lead to one of several states to a list.
func (r reverse) add(list, targets []int) []int {
	for _, to := range targets {
		for from := r.first[to]; from != none; from = r.next[from] {
			list = append(list, from)
		}
	}
	return list
}
