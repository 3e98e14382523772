package nfa

import (
	"bosket/api"
	"bosket/rex"
)

// Of returns an automaton that accepts exactly the strings of an expression, or the error of rex.Check.
func Of(r api.Regex) (api.NFA, api.Errno) {
	if e := rex.Check(r); e != api.OK {
		return api.NFA{}, e
	}
	whole := len(r) - 1
	n := api.NFA{States: 2 * len(r), First: begin(whole), Last: end(whole)}
	for at := range r {
		n.Edges = append(n.Edges, edgesOf(r, at)...)
	}
	return n, api.OK
}

// begin and end return the two states of the piece at an index. The strings of the expression that ends with the piece lead from the one to the other. No edge of this expression leads to its begin or from its end, so that it can be repeated, left out or put beside others by edges to its begin and from its end.
func begin(at int) int { return 2 * at }

func end(at int) int { return 2*at + 1 }

func freeEdge(from, to int) api.Edge { return api.Edge{From: from, To: to, Free: true} }

// edgesOf returns the edges that tie the operands of the piece at an index to its two states.
func edgesOf(r api.Regex, at int) []api.Edge {
	p, from, to := r[at], begin(at), end(at)
	switch rex.Takes(p.Kind) {
	case 1:
		return repeated(p.Kind, at-1, from, to)
	case 2:
		second := at - 1
		return paired(p.Kind, rex.Start(r, second)-1, second, from, to)
	}
	return []api.Edge{{From: from, To: to, Set: p.Set, Free: p.Kind == api.None}}
}

// paired returns the edges of a Cat or an Alt of two operands.
func paired(kind, first, second, from, to int) []api.Edge {
	if kind == api.Cat {
		return []api.Edge{freeEdge(from, begin(first)), freeEdge(end(first), begin(second)), freeEdge(end(second), to)}
	}
	return []api.Edge{freeEdge(from, begin(first)), freeEdge(end(first), to), freeEdge(from, begin(second)), freeEdge(end(second), to)}
}

// repeated returns the edges of a Star, a Plus or an Opt of an operand.
func repeated(kind, operand, from, to int) []api.Edge {
	l := []api.Edge{freeEdge(from, begin(operand)), freeEdge(end(operand), to)}
	if kind != api.Plus {
		l = append(l, freeEdge(from, to))
	}
	if kind != api.Opt {
		l = append(l, freeEdge(end(operand), begin(operand)))
	}
	return l
}
