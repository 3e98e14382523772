package subset_test

import (
	"fmt"
	"iter"
	"math"
	"slices"
	"testing"

	"bosket/api"
	"bosket/byteset"
	"bosket/nfa"
	"bosket/rex"
)

// of returns the automaton of the text of an expression.
func of(t *testing.T, s string) api.NFA {
	t.Helper()
	r, e := rex.Parse(s)
	if e != api.OK {
		t.Fatalf("Parse(%q): %d", s, e)
	}
	n, e := nfa.Of(r)
	if e != api.OK {
		t.Fatalf("nfa.Of(%q): %d", s, e)
	}
	return n
}

// free returns an edge that reads nothing.
func free(from, to int) api.Edge { return api.Edge{From: from, To: to, Free: true} }

// on returns an edge for some bytes.
func on(from, to int, bytes string) api.Edge {
	return api.Edge{From: from, To: to, Set: byteset.Of([]byte(bytes)...)}
}

// automaton returns one that starts in 0.
func automaton(states, last int, edges ...api.Edge) api.NFA {
	return api.NFA{States: states, Last: last, Edges: edges}
}

// told returns an automaton for messages.
func told(n api.NFA) string {
	s := fmt.Sprintf("%d states, from %d to %d:", n.States, n.First, n.Last)
	for _, e := range n.Edges[:min(len(n.Edges), 20)] {
		s += fmt.Sprintf(" %d-%q-%d", e.From, byteset.List(e.Set), e.To)
		if e.Free {
			s += " free"
		}
	}
	return s
}

// result returns a deterministic automaton for messages.
func result(d api.DFA) string {
	classes := map[uint8]int{}
	for _, class := range d.Class {
		classes[class]++
	}
	return fmt.Sprintf("%d states, bytes by classes %v, %v, marks %v", len(d.Next), classes, d.Next[:min(len(d.Next), 20)], d.Mark[:min(len(d.Mark), 20)])
}

func equal(a, b api.DFA) bool {
	return a.Class == b.Class && slices.EqualFunc(a.Next, b.Next, slices.Equal) && slices.Equal(a.Mark, b.Mark)
}

// zero tells whether a deterministic automaton is what stands beside an error.
func zero(d api.DFA) bool { return d.Class == [256]uint8{} && len(d.Next) == 0 && len(d.Mark) == 0 }

// onlyLast returns marks of which only Last has one, 0.
func onlyLast(n api.NFA) []int {
	marks := slices.Repeat([]int{-1}, n.Last+1)
	marks[n.Last] = 0
	return marks
}

// model returns what Of has to return where Right holds, by the words of the document: sets are lists of nfa, and are held against each other one by one.
func model(n api.NFA, marks []int) (api.DFA, api.Errno) {
	d := api.DFA{Class: byteset.Classes(nfa.Sets(n)...)}
	start := make([]bool, n.States)
	start[n.First] = true
	sets := [][]bool{nfa.Close(n, start)}
	for at := 0; at < len(sets); at++ {
		var row []int
		for class := range byteset.Count(d.Class) {
			b := byte(slices.Index(d.Class[:], uint8(class)))
			set := nfa.Close(n, nfa.Move(n, sets[at], b))
			if !slices.Contains(set, true) {
				row = append(row, -1)
				continue
			}
			to := slices.IndexFunc(sets, func(s []bool) bool { return slices.Equal(s, set) })
			if to < 0 {
				to = len(sets)
				sets = append(sets, set)
			}
			row = append(row, to)
		}
		d.Next, d.Mark = append(d.Next, row), append(d.Mark, markOf(sets[at], marks))
	}
	if len(sets) > 2000 {
		return api.DFA{}, api.ErrBig
	}
	return d, api.OK
}

// markOf returns the smallest mark of the states of a set, or -1.
func markOf(set []bool, marks []int) int {
	least := math.MaxInt
	found := false
	for state, in := range set {
		if in && state < len(marks) && marks[state] >= 0 {
			found, least = true, min(least, marks[state])
		}
	}
	if !found {
		return -1
	}
	return least
}

// reached returns the states to which a text leads from First: it goes through all pairs of a place in the text and a state.
func reached(n api.NFA, s string) []bool {
	type pair struct{ at, state int }
	seen := map[pair]bool{}
	var visit func(p pair)
	visit = func(p pair) {
		if seen[p] {
			return
		}
		seen[p] = true
		for _, e := range n.Edges {
			switch {
			case e.From != p.state:
			case e.Free:
				visit(pair{p.at, e.To})
			case p.at < len(s) && e.Set[s[p.at]/64]&(1<<(s[p.at]%64)) != 0:
				visit(pair{p.at + 1, e.To})
			}
		}
	}
	visit(pair{0, n.First})
	ends := make([]bool, n.States)
	for state := range ends {
		ends[state] = seen[pair{len(s), state}]
	}
	return ends
}

// markAfter returns the mark of the state to which a text leads, or -1.
func markAfter(d api.DFA, s string) int {
	state := 0
	for _, b := range []byte(s) {
		if state = d.Next[state][d.Class[b]]; state < 0 {
			return -1
		}
	}
	return d.Mark[state]
}

// texts returns all texts of the letters, up to a length, the shortest first.
func texts(letters string, length int) []string {
	all := []string{""}
	for i := 0; len(all[i]) < length; i++ {
		for _, c := range []byte(letters) {
			all = append(all, all[i]+string([]byte{c}))
		}
	}
	return all
}

// small yields all automata of at most 2 states and at most 3 edges, for a, for a and b, for no byte at all, or Free (with a Set or without one).
func small() iter.Seq[api.NFA] {
	return func(yield func(api.NFA) bool) {
		for states := 1; states <= 2; states++ {
			for _, edges := range edgeRows(states, 3) {
				for ends := range states * states {
					n := api.NFA{States: states, Edges: edges, First: ends / states, Last: ends % states}
					if !yield(n) {
						return
					}
				}
			}
		}
	}
}

// edgeRows returns all rows of at most so many edges between so many states.
func edgeRows(states, most int) [][]api.Edge {
	var kinds []api.Edge
	for ends := range states * states {
		from, to := ends/states, ends%states
		kinds = append(kinds, on(from, to, "a"), on(from, to, "ab"), on(from, to, ""), free(from, to))
		kinds = append(kinds, api.Edge{From: from, To: to, Free: true, Set: byteset.Of('a')})
	}
	rows := [][]api.Edge{nil}
	for from := 0; len(rows[from]) < most; from++ {
		for _, e := range kinds {
			rows = append(rows, append(slices.Clone(rows[from]), e))
		}
	}
	return rows
}

// A source tells numbers without a plain rule, always the same ones.
type source uint64

func (x *source) below(n int) int {
	*x = *x*6364136223846793005 + 1442695040888963407
	return int(uint64(*x)>>33) % n
}

// bigger yields automata of 3 to 20 states with all kinds of edges, and marks for them.
func bigger() iter.Seq2[api.NFA, []int] {
	return func(yield func(api.NFA, []int) bool) {
		x := source(7)
		sets := []string{"a", "b", "c", "ab", "bc", "abc", "", "\x00", "\x00a\xff", "b\xff"}
		for range 900 {
			n := api.NFA{States: 3 + x.below(18)}
			n.First, n.Last = x.below(n.States), x.below(n.States)
			for range x.below(2*n.States + 4) {
				e := on(x.below(n.States), x.below(n.States), sets[x.below(len(sets))])
				e.Free = x.below(4) == 0
				n.Edges = append(n.Edges, e)
			}
			var marks []int
			for range x.below(n.States + 4) {
				marks = append(marks, x.below(12)-4)
			}
			if !yield(n, marks) {
				return
			}
		}
	}
}

// row returns an automaton of so many states, each of which leads to the next one for a byte.
func row(states int, bytes string) api.NFA {
	n := automaton(states, states-1)
	for from := range states - 1 {
		n.Edges = append(n.Edges, on(from, from+1, bytes))
	}
	return n
}

// wrong returns automata with one thing that is no state.
func wrong() []api.NFA {
	l := []api.NFA{{}, {States: -1}, {States: math.MinInt}, {States: -1, First: -2, Last: -2}, {States: 0, First: -1, Last: -1}, {States: -3, First: -5, Last: -5, Edges: []api.Edge{free(-5, -5)}}}
	for _, state := range []int{-1, 3, 4, math.MinInt, math.MaxInt} {
		for _, edges := range [][]api.Edge{nil, {on(0, 1, "a"), free(1, 2)}} {
			l = append(l, api.NFA{States: 3, First: state, Last: 1, Edges: edges}, api.NFA{States: 3, First: 1, Last: state, Edges: edges})
		}
		for _, e := range []api.Edge{free(state, 1), free(1, state), on(state, 1, "a"), on(1, state, "a"), on(1, state, ""), on(state, state, "a")} {
			good := on(0, 1, "a")
			l = append(l, automaton(3, 2, e), automaton(3, 0, e), automaton(3, 1, e, good, good), automaton(3, 1, good, e, good), automaton(3, 1, good, good, e))
		}
	}
	long := row(2500, "a") // its states would be too many besides
	long.Edges = append(long.Edges, free(0, 2500))
	return append(l, long)
}
