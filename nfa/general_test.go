package nfa_test

import (
	"fmt"
	"math"
	"slices"
	"strings"
	"testing"

	"bosket/api"
	"bosket/byteset"
	"bosket/nfa"
)

// samples returns automata of all kinds, those for which Right does not hold too.
func samples(t *testing.T) []api.NFA {
	l := append(wrong(), chain(2000), api.NFA{States: 1 << 20}, automaton(5, 4))
	for _, r := range big(t) {
		l = append(l, of(t, r))
	}
	for n := range bigger() {
		if l = append(l, n); len(l) > 150 {
			break
		}
	}
	return l
}

// P1: every call ends and does not panic, even for automata for which the document tells nothing.
func TestEveryCallEnds(t *testing.T) {
	for _, n := range append(samples(t), api.NFA{States: math.MaxInt}, automaton(math.MaxInt, 1, free(math.MaxInt-1, 1), on(0, math.MaxInt-1, "a"))) {
		nfa.Right(n)
		nfa.Sets(n)
		for _, s := range []string{"", "a", "ab\xff\x00", strings.Repeat("ab", 500)} {
			nfa.Has(n, s)
		}
		for _, in := range [][]bool{nil, {}, {true}, {false, true}, slices.Repeat([]bool{true}, 3000)} {
			nfa.Close(n, in)
			nfa.Move(n, in, 'a')
			nfa.Move(n, in, 255)
		}
		u, _ := nfa.Union(n, n)
		nfa.Has(u, "a")
		nfa.Union(u, n, u)
	}
	for _, l := range refused() {
		for _, r := range l {
			nfa.Of(r)
		}
	}
}

// roomy returns an automaton whose list of edges has room behind its length, with edges there, and the whole list.
func roomy(n api.NFA) (api.NFA, []api.Edge) {
	room := append(slices.Clone(n.Edges), slices.Repeat([]api.Edge{free(0, 0), on(0, 0, "a")}, 5)...)
	n.Edges = room[:len(n.Edges)]
	return n, room
}

// answers holds what calls for an automaton answer.
type answers struct {
	lists [][]bool
	sets  []api.Set
	union api.NFA
	lasts []int
	tells string
}

func ask(n api.NFA, in []bool) answers {
	l := answers{lists: [][]bool{nfa.Close(n, in), nfa.Move(n, in, 'a'), nfa.Move(n, in, 'b')}, sets: nfa.Sets(n)}
	l.union, l.lasts = nfa.Union(n, n)
	l.tells = fmt.Sprint(nfa.Right(n), nfa.Has(n, ""), nfa.Has(n, "abab"), nfa.Has(n, "a"))
	return l
}

// clone returns answers that share nothing with the ones that were given.
func (l answers) clone() answers {
	lists := l.lists
	l.lists = nil
	for _, list := range lists {
		l.lists = append(l.lists, slices.Clone(list))
	}
	l.sets, l.lasts, l.union.Edges = slices.Clone(l.sets), slices.Clone(l.lasts), slices.Clone(l.union.Edges)
	return l
}

func (l answers) equal(m answers) bool {
	return slices.EqualFunc(l.lists, m.lists, slices.Equal) && slices.Equal(l.sets, m.sets) && slices.Equal(l.lasts, m.lasts) && l.tells == m.tells &&
		l.union.States == m.union.States && l.union.First == m.union.First && l.union.Last == m.union.Last && slices.Equal(l.union.Edges, m.union.Edges)
}

// spoil overwrites all elements of a list, those behind its length too.
func spoil[T any](l []T, with T) {
	l = l[:cap(l)]
	for i := range l {
		l[i] = with
	}
}

func (l answers) spoil() {
	for _, list := range l.lists {
		for i, is := range list[:cap(list)] {
			list[:cap(list)][i] = !is
		}
	}
	spoil(l.sets, byteset.Of('z'))
	spoil(l.lasts, -99)
	spoil(l.union.Edges, on(-99, -99, "z"))
}

// P2, rule 4: arguments are neither modified nor kept, not even behind their lengths, and results are new.
func TestArgumentsStayAsTheyAre(t *testing.T) {
	for _, n := range samples(t) {
		n, room := roomy(n)
		list := []bool{true, false, true, true, false, true, false, true, true, true}
		in := list[:2]
		edges, bools := slices.Clone(room), slices.Clone(list)
		first := ask(n, in)
		want := first.clone()
		first.spoil()
		if !slices.Equal(room, edges) || !slices.Equal(list, bools) {
			t.Fatalf("%s or the list of its states has changed", told(n))
		}
		got := ask(n, in)
		spoil(room, on(-99, -99, "z"))
		spoil(list, false)
		if !got.equal(want) {
			t.Fatalf("what was told of %s has changed", told(n))
		}
	}
}

// P2, rule 4: the automata of a Union are neither modified nor kept as a list.
func TestUnionLeavesItsList(t *testing.T) {
	a, b := of(t, parsed(t, "a")), of(t, parsed(t, "ab"))
	l := []api.NFA{a, b, b}
	nfa.Union(l[:2]...)
	for i, want := range []api.NFA{a, b, b} {
		if l[i].States != want.States || l[i].First != want.First || l[i].Last != want.Last || !slices.Equal(l[i].Edges, want.Edges) {
			t.Errorf("the automaton %d is now %s", i, told(l[i]))
		}
	}
}

// P2, rule 4: Of neither modifies nor keeps its pieces, and returns what is new.
func TestOfLeavesItsPieces(t *testing.T) {
	r := parsed(t, "(a|b)*a~b?c+.")
	room := append(slices.Clone(r), slices.Repeat(api.Regex{one('z')}, 9)...)
	before := slices.Clone(room)
	n, want := of(t, room[:len(r)]), of(t, r)
	if !slices.Equal(room, before) {
		t.Errorf("%v has become %v", before, room)
	}
	spoil(room, api.Piece{Kind: 99})
	if !slices.Equal(n.Edges, want.Edges) {
		t.Errorf("%s, and then %s", told(want), told(n))
	}
	edges := slices.Clone(want.Edges)
	spoil(want.Edges, free(-99, -99))
	if again := of(t, r); !slices.Equal(again.Edges, edges) {
		t.Errorf("then %s", told(again))
	}
}

// P2: a call answers the same, whatever was called before, and calls that failed are not to be noticed.
func TestCallsAnswerTheSameAgain(t *testing.T) {
	all := samples(t)
	in := []bool{true, false, true}
	var before []answers
	for _, n := range all {
		before = append(before, ask(n, in))
	}
	made := of(t, parsed(t, "(a|b)*c"))
	for _, l := range refused() {
		for _, r := range l {
			nfa.Of(r)
		}
	}
	for i, n := range slices.Backward(all) {
		if !ask(n, in).equal(before[i]) {
			t.Fatalf("other answers for %s", told(n))
		}
	}
	if again := of(t, parsed(t, "(a|b)*c")); !slices.Equal(made.Edges, again.Edges) || made.First != again.First || made.Last != again.Last {
		t.Errorf("%s, and then %s", told(made), told(again))
	}
}
