package nfa_test

import (
	"fmt"
	"iter"
	"maps"
	"slices"
	"strings"
	"testing"

	"bosket/api"
	"bosket/byteset"
	"bosket/rex"
)

// parsed returns the expression of a text.
func parsed(t *testing.T, s string) api.Regex {
	t.Helper()
	r, e := rex.Parse(s)
	if e != api.OK {
		t.Fatalf("Parse(%q): %d", s, e)
	}
	return r
}

func one(l ...byte) api.Piece { return api.Piece{Kind: api.One, Set: byteset.Of(l...)} }

// brief returns an expression for messages.
func brief(r api.Regex) string {
	if s := rex.Show(r); s != "" && len(s) < 100 {
		return s
	}
	return fmt.Sprintf("%d pieces: %v", len(r), r[:min(len(r), 9)])
}

// free returns an edge that reads nothing.
func free(from, to int) api.Edge { return api.Edge{From: from, To: to, Free: true} }

// on returns an edge for some bytes.
func on(from, to int, bytes string) api.Edge {
	return api.Edge{From: from, To: to, Set: byteset.Of([]byte(bytes)...)}
}

// automaton returns one that starts in 0.
func automaton(states, last int, edges ...api.Edge) api.NFA {
	return api.NFA{States: states, Last: last, Edges: edges}
}

// told returns an automaton for messages.
func told(n api.NFA) string {
	s := fmt.Sprintf("%d states, from %d to %d:", n.States, n.First, n.Last)
	for _, e := range n.Edges[:min(len(n.Edges), 20)] {
		s += fmt.Sprintf(" %d-%q-%d", e.From, byteset.List(e.Set), e.To)
		if e.Free {
			s += " free"
		}
	}
	return s
}

// expressions yields all valid expressions of at most so many of the pieces.
func expressions(most int, pieces ...api.Piece) iter.Seq[api.Regex] {
	return func(yield func(api.Regex) bool) {
		rows := []api.Regex{nil}
		for range most {
			var longer []api.Regex
			for _, r := range rows {
				for _, p := range pieces {
					longer = append(longer, append(slices.Clone(r), p))
				}
			}
			for _, r := range longer {
				if rex.Check(r) == api.OK && !yield(r) {
					return
				}
			}
			rows = longer
		}
	}
}

// texts returns all texts of the letters, up to a length, the shortest first.
func texts(letters string, length int) []string {
	all := []string{""}
	for i := 0; len(all[i]) < length; i++ {
		for _, c := range []byte(letters) {
			all = append(all, all[i]+string([]byte{c}))
		}
	}
	return all
}

// A language is a set of strings.
type language map[string]bool

// languageOf returns the strings of a valid expression that are of the letters and not longer than that.
func languageOf(r api.Regex, letters string, length int) language {
	var parts []language
	for _, part := range rex.Parts(r) {
		parts = append(parts, languageOf(part, letters, length))
	}
	empty := language{"": true}
	switch last := r[len(r)-1]; last.Kind {
	case api.None:
		return empty
	case api.One:
		l := language{}
		for _, c := range []byte(letters) {
			if length > 0 && slices.Contains(byteset.List(last.Set), c) {
				l[string([]byte{c})] = true
			}
		}
		return l
	case api.Cat:
		return parts[0].then(parts[1], length)
	case api.Alt:
		return parts[0].or(parts[1])
	case api.Star:
		return parts[0].repeated(length).or(empty)
	case api.Plus:
		return parts[0].repeated(length)
	}
	return parts[0].or(empty)
}

func (l language) or(m language) language {
	all := maps.Clone(l)
	maps.Copy(all, m)
	return all
}

func (l language) then(m language, length int) language {
	all := language{}
	for x := range l {
		for y := range m {
			if len(x)+len(y) <= length {
				all[x+y] = true
			}
		}
	}
	return all
}

// repeated returns the strings of one string at least.
func (l language) repeated(length int) language {
	for all := l; ; {
		more := all.or(all.then(l, length))
		if len(more) == len(all) {
			return all
		}
		all = more
	}
}

// leads tells whether a text leads from First to a state: it goes through all pairs of a place in the text and a state.
func leads(n api.NFA, s string, state int) bool {
	type pair struct{ at, state int }
	seen := map[pair]bool{}
	var visit func(p pair)
	visit = func(p pair) {
		if seen[p] {
			return
		}
		seen[p] = true
		for _, e := range n.Edges {
			switch {
			case e.From != p.state:
			case e.Free:
				visit(pair{p.at, e.To})
			case p.at < len(s) && holds(e.Set, s[p.at]):
				visit(pair{p.at + 1, e.To})
			}
		}
	}
	visit(pair{0, n.First})
	return seen[pair{len(s), state}]
}

// holds tells whether bit b modulo 64 of word b / 64 is 1.
func holds(s api.Set, b byte) bool { return s[b/64]&(1<<(b%64)) != 0 }

// closed returns what Close has to return: edge by edge, until nothing changes.
func closed(n api.NFA, in []bool) []bool {
	reached := make([]bool, n.States)
	for state := range reached {
		reached[state] = state < len(in) && in[state]
	}
	for changed := true; changed; {
		changed = false
		for _, e := range n.Edges {
			if e.Free && reached[e.From] && !reached[e.To] {
				reached[e.To], changed = true, true
			}
		}
	}
	return reached
}

// movedOn returns what Move has to return: state by state.
func movedOn(n api.NFA, in []bool, b byte) []bool {
	reached := make([]bool, n.States)
	for to := range reached {
		reached[to] = slices.ContainsFunc(n.Edges, func(e api.Edge) bool {
			return e.To == to && !e.Free && holds(e.Set, b) && e.From < len(in) && in[e.From]
		})
	}
	return reached
}

// small yields all automata of at most 2 states and at most 3 edges, for a, for a and b, for no byte at all, or Free (with a Set or without one).
func small() iter.Seq[api.NFA] {
	return func(yield func(api.NFA) bool) {
		for states := 1; states <= 2; states++ {
			for _, edges := range edgeRows(states, 3) {
				for ends := range states * states {
					n := api.NFA{States: states, Edges: edges, First: ends / states, Last: ends % states}
					if !yield(n) {
						return
					}
				}
			}
		}
	}
}

// edgeRows returns all rows of at most so many edges between so many states.
func edgeRows(states, most int) [][]api.Edge {
	var kinds []api.Edge
	for ends := range states * states {
		from, to := ends/states, ends%states
		kinds = append(kinds, on(from, to, "a"), on(from, to, "ab"), on(from, to, ""), free(from, to))
		kinds = append(kinds, api.Edge{From: from, To: to, Free: true, Set: byteset.Of('a')})
	}
	rows := [][]api.Edge{nil}
	for from := 0; len(rows[from]) < most; from++ {
		for _, e := range kinds {
			rows = append(rows, append(slices.Clone(rows[from]), e))
		}
	}
	return rows
}

// A source tells numbers without a plain rule, always the same ones.
type source uint64

func (x *source) below(n int) int {
	*x = *x*6364136223846793005 + 1442695040888963407
	return int(uint64(*x)>>33) % n
}

// bigger yields automata of 3 to 9 states with all kinds of edges.
func bigger() iter.Seq[api.NFA] {
	return func(yield func(api.NFA) bool) {
		x := source(6)
		for range 600 {
			n := api.NFA{States: 3 + x.below(7)}
			n.First, n.Last = x.below(n.States), x.below(n.States)
			for range x.below(3 * n.States) {
				e := on(x.below(n.States), x.below(n.States), []string{"a", "b", "c", "ab", "bc", "abc", ""}[x.below(7)])
				e.Free = x.below(3) == 0
				n.Edges = append(n.Edges, e)
			}
			if !yield(n) {
				return
			}
		}
	}
}

// lists returns lists for Close and Move: all short ones, and some that are shorter or longer than the states are many.
func lists(states int) [][]bool {
	all := [][]bool{nil, {}, slices.Repeat([]bool{true}, states), slices.Repeat([]bool{true}, states+3)}
	all = append(all, append(make([]bool, states), true, true)) // true behind the states only
	for bits := range 1 << min(states+1, 4) {
		for length := range 5 {
			var l []bool
			for i := range length {
				l = append(l, bits>>i&1 == 1)
			}
			all = append(all, l)
		}
	}
	for state := range states {
		all = append(all, only(state))
	}
	return all
}

// only returns a list that ends with the one state that is in it.
func only(states ...int) []bool {
	l := make([]bool, slices.Max(states)+1)
	for _, state := range states {
		l[state] = true
	}
	return l
}

// chain returns an automaton of so many states, each of which leads to the next one by a Free edge, the last edge first.
func chain(states int) api.NFA {
	n := automaton(states, states-1)
	for from := states - 2; from >= 0; from-- {
		n.Edges = append(n.Edges, free(from, from+1))
	}
	return n
}

// big returns valid expressions of just MaxRegex pieces, or of nearly as many.
func big(t *testing.T) []api.Regex {
	signs := func(l ...int) api.Regex {
		r := api.Regex{one('a')}
		for len(r) < api.MaxRegex {
			r = append(r, api.Piece{Kind: l[len(r)%len(l)]})
		}
		return r
	}
	a := slices.Repeat(api.Regex{one('a')}, 200)
	l := []api.Regex{
		signs(api.Star), signs(api.Plus), signs(api.Opt), signs(api.Star, api.Plus, api.Opt),
		append(rex.Word(strings.Repeat("ab", 100)), api.Piece{Kind: api.Star}),
		append(slices.Clone(a), slices.Repeat(api.Regex{{Kind: api.Cat}}, 199)...),
		append(slices.Clone(a), slices.Repeat(api.Regex{{Kind: api.Alt}}, 199)...),
		parsed(t, "(a|b)*a"+strings.Repeat("(a|b)", 90)),
		parsed(t, "("+strings.Repeat("a?[ab]?b?", 30)+")*"),
	}
	for _, r := range l {
		if e := rex.Check(r); e != api.OK {
			t.Fatalf("%s: %d", brief(r), e)
		}
	}
	return l
}
