package nfa_test

import (
	"slices"
	"testing"

	"bosket/api"
	"bosket/nfa"
)

// union returns a Union, which has to be as P6.3 tells; in which order the edges are it leaves open.
func union(t *testing.T, l ...api.NFA) (api.NFA, []int) {
	t.Helper()
	u, lasts := nfa.Union(l...)
	states := 1
	var edges []api.Edge
	var wantLasts []int
	for _, n := range l {
		edges = append(edges, free(0, states+n.First))
		for _, e := range n.Edges {
			edges = append(edges, api.Edge{From: states + e.From, To: states + e.To, Set: e.Set, Free: e.Free})
		}
		wantLasts = append(wantLasts, states+n.Last)
		states += n.States
	}
	if u.States != states || u.First != 0 || u.Last != 0 || !nfa.Right(u) {
		t.Fatalf("Union: %s, want %d states", told(u), states)
	}
	if !slices.Equal(lasts, wantLasts) {
		t.Fatalf("Union: %v, want %v", lasts, wantLasts)
	}
	left := slices.Clone(u.Edges)
	for _, e := range edges {
		at := slices.Index(left, e)
		if at < 0 {
			t.Fatalf("Union: %s, without %v", told(u), e)
		}
		left = slices.Delete(left, at, at+1)
	}
	if len(left) != 0 {
		t.Fatalf("Union: %s, with %v besides", told(u), left)
	}
	return u, lasts
}

// tells checks P6.4 for some texts.
func tells(t *testing.T, all []string, l ...api.NFA) {
	t.Helper()
	u, lasts := union(t, l...)
	if got := nfa.Has(u, ""); !got || nfa.Has(u, "a") {
		t.Errorf("%s: that it accepts the empty string is %v", told(u), got)
	}
	for i, n := range l {
		to := u
		to.Last = lasts[i]
		for _, s := range all {
			if got := nfa.Has(to, s); got != leads(n, s, n.Last) {
				t.Fatalf("%q leads %s to %d: %v", s, told(u), to.Last, got)
			}
		}
	}
}

// P6.3: of no automaton, of one, and of several.
func TestUnion(t *testing.T) {
	a, b, c := of(t, parsed(t, "a+")), of(t, parsed(t, "ab?")), of(t, parsed(t, "~"))
	all := texts("abc", 4)
	tells(t, all)
	tells(t, all, a)
	tells(t, all, c)
	tells(t, all, a, b)
	tells(t, all, b, a)
	tells(t, all, a, a, a)
	tells(t, all, a, b, c, of(t, parsed(t, "(a|b|c)*abc")), of(t, parsed(t, "c[^a]*")))
	u, lasts := nfa.Union()
	if u.States != 1 || len(u.Edges) != 0 || len(lasts) != 0 {
		t.Errorf("Union of none: %s, %v", told(u), lasts)
	}
}

// P6.3: First and Last may be any states, edges may lead to First and from Last, and a Free edge keeps its Set.
func TestUnionOfOddOnes(t *testing.T) {
	all := texts("ab", 3)
	alone := api.NFA{States: 1}
	back := api.NFA{States: 3, First: 2, Last: 1, Edges: []api.Edge{on(2, 1, "a"), on(1, 2, "b"), on(1, 1, "a"), on(0, 1, "b")}}
	circle := api.NFA{States: 2, First: 1, Last: 1, Edges: []api.Edge{free(1, 0), free(0, 1), on(0, 0, "a"), {From: 0, To: 1, Free: true, Set: on(0, 0, "b").Set}}}
	idle := api.NFA{States: 5, First: 3, Last: 4}
	tells(t, all, alone)
	tells(t, all, back)
	tells(t, all, circle)
	tells(t, all, idle)
	tells(t, all, alone, back, idle, circle, back, alone)
}

// P6.3: of unions.
func TestUnionOfUnions(t *testing.T) {
	all := texts("ab", 3)
	one, lasts := union(t, of(t, parsed(t, "a+")), of(t, parsed(t, "b*a")))
	two, _ := union(t, one, of(t, parsed(t, "b")))
	for i, r := range []string{"a+", "b*a"} {
		to := two
		to.Last = 1 + lasts[i]
		n := of(t, parsed(t, r))
		for _, s := range all {
			if nfa.Has(to, s) != leads(n, s, n.Last) {
				t.Errorf("%q leads the union of a union to the Last of %s: %v", s, r, nfa.Has(to, s))
			}
		}
	}
	empty, _ := union(t)
	tells(t, all, empty, empty)
}

// P6.4: the texts with which a union reaches Last of one of its automata.
func TestUnionsOfManyAutomata(t *testing.T) {
	all := texts("abc", 3)
	var before []api.NFA
	for n := range bigger() {
		before = append(before, n)
		if len(before) > 3 {
			before = before[1:]
		}
		tells(t, all, before...)
	}
}

// P6.4: likewise, by Close and Move.
func TestUnionsByCloseAndMove(t *testing.T) {
	parts := []string{"(a|b)*a", "ab*", "~", "b+|c"}
	var l []api.NFA
	for _, text := range parts {
		l = append(l, of(t, parsed(t, text)))
	}
	u, lasts := union(t, l...)
	for _, s := range texts("abc", 4) {
		in := nfa.Close(u, only(0))
		for _, b := range []byte(s) {
			in = nfa.Close(u, nfa.Move(u, in, b))
		}
		for i := range l {
			if in[lasts[i]] != nfa.Has(l[i], s) {
				t.Errorf("%q leads the union to the Last of %s: %v", s, parts[i], in[lasts[i]])
			}
		}
	}
}
