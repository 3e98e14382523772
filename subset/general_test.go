package subset_test

import (
	"math"
	"slices"
	"strings"
	"testing"

	"bosket/api"
	"bosket/byteset"
	"bosket/nfa"
	"bosket/subset"
)

// A sample is an automaton, and marks for it.
type sample struct {
	n     api.NFA
	marks []int
}

// samples returns arguments of all kinds, those that are refused too.
func samples(t *testing.T) []sample {
	var l []sample
	for _, n := range wrong() {
		l = append(l, sample{n, []int{1, 0}})
	}
	for n, marks := range bigger() {
		if l = append(l, sample{n, marks}); len(l) > 400 {
			break
		}
	}
	for _, n := range []api.NFA{
		row(2000, "a"), row(2001, "b"), of(t, "(a|b)*a"+strings.Repeat("(a|b)", 90)), of(t, strings.Repeat("a", 200)), of(t, "((a?)*b)+"),
		{States: 1 << 20}, {States: math.MaxInt}, {States: math.MaxInt, First: math.MaxInt - 1, Last: 1 << 50, Edges: []api.Edge{on(math.MaxInt-1, 1<<50, "a"), free(1<<50, 7)}},
	} {
		l = append(l, sample{n, nil}, sample{n, []int{math.MinInt, math.MaxInt, -1, 0, 1}}, sample{n, slices.Repeat([]int{2}, 5000)})
	}
	return l
}

// P1: every call ends and does not panic.
func TestEveryCallEnds(t *testing.T) {
	for _, s := range samples(t) {
		subset.Of(s.n, s.marks)
		subset.Of(s.n, nil)
		subset.One(s.n)
	}
}

// P1: long rows of Free edges, and many edges between few states.
func TestBigAutomata(t *testing.T) {
	long := automaton(200_000, 0, on(0, 199_999, "a"))
	for from := long.States - 2; from >= 0; from-- {
		long.Edges = append(long.Edges, free(from, from+1))
	}
	want := api.DFA{Class: classes("a"), Next: [][]int{{-1, 1}, {-1, -1}}, Mark: []int{4, 9}}
	is(t, long, nil, made(t, long, append(slices.Repeat([]int{-1}, 199_998), 4, 9, 1)), want)

	dense := automaton(25, 24)
	for from := range 25 {
		for to := range 25 {
			dense.Edges = append(dense.Edges, api.Edge{From: from, To: to, Set: byteset.Of(byte(from*3 + to*5))})
		}
	}
	got, e := subset.One(dense)
	wanted, wantedE := model(dense, onlyLast(dense))
	if e != wantedE || !equal(got, wanted) {
		t.Errorf("a dense automaton: %d, want %d", e, wantedE)
	}
}

// clone returns an automaton that shares nothing with the one that was given.
func clone(d api.DFA) api.DFA {
	next := d.Next
	d.Next, d.Mark = nil, slices.Clone(d.Mark)
	for _, row := range next {
		d.Next = append(d.Next, slices.Clone(row))
	}
	return d
}

// spoil overwrites all elements of a list, those behind its length too.
func spoil[T any](l []T, with T) {
	l = l[:cap(l)]
	for i := range l {
		l[i] = with
	}
}

// P2, rule 4: arguments are neither modified nor kept, not even behind their lengths, and results are new.
func TestArgumentsStayAsTheyAre(t *testing.T) {
	for _, s := range samples(t) {
		edges := append(slices.Clone(s.n.Edges), slices.Repeat([]api.Edge{free(0, 0), on(0, 0, "a")}, 5)...)
		marks := append(slices.Clone(s.marks), 0, 0, 0, 0)
		n := s.n
		n.Edges = edges[:len(n.Edges)]
		edgesBefore, marksBefore := slices.Clone(edges), slices.Clone(marks)

		d, e := subset.Of(n, marks[:len(s.marks)])
		o, oE := subset.One(n)
		want, wantOne := clone(d), clone(o)
		for _, l := range append(d.Next, o.Next...) {
			spoil(l, 77)
		}
		for _, l := range []api.DFA{d, o} {
			spoil(l.Next, nil)
			spoil(l.Mark, 77)
		}
		if !slices.Equal(edges, edgesBefore) || !slices.Equal(marks, marksBefore) {
			t.Fatalf("%s or its marks have changed", told(n))
		}

		d, e2 := subset.Of(n, marks[:len(s.marks)])
		o, oE2 := subset.One(n)
		spoil(edges, on(-99, -99, "z"))
		spoil(marks, 88)
		if e != e2 || oE != oE2 || !equal(d, want) || !equal(o, wantOne) {
			t.Fatalf("what was made of %s has changed", told(s.n))
		}
	}
}

// P2, rule 4: no two lists of a result share anything, not even behind their lengths.
func TestListsOfAResultShareNothing(t *testing.T) {
	d := one(t, of(t, "(a|b)*abb|c+"))
	want := clone(d)
	for i := range d.Next {
		_ = append(d.Next[i], 77)
		d.Next[i] = d.Next[i][:cap(d.Next[i])]
		spoil(d.Next[i], 77)
		for k, row := range d.Next {
			if k > i && !slices.Equal(row, want.Next[k]) {
				t.Fatalf("the row %d has changed with the row %d", k, i)
			}
		}
		if !slices.Equal(d.Mark, want.Mark) || d.Class != want.Class {
			t.Fatalf("the marks or classes have changed with the row %d", i)
		}
	}
}

// P2: a call answers the same, whatever was called before, and calls that failed are not to be noticed.
func TestCallsAnswerTheSameAgain(t *testing.T) {
	all := samples(t)
	var before, ones []api.DFA
	for _, s := range all {
		d, _ := subset.Of(s.n, s.marks)
		o, _ := subset.One(s.n)
		before, ones = append(before, d), append(ones, o)
	}
	for i, s := range slices.Backward(all) {
		d, e := subset.Of(s.n, s.marks)
		o, oE := subset.One(s.n)
		if !equal(d, before[i]) || !equal(o, ones[i]) {
			t.Fatalf("another result for %s", told(s.n))
		}
		if right := nfa.Right(s.n); (e == api.ErrArg) == right || (oE == api.ErrArg) == right {
			t.Fatalf("%d and %d for %s", e, oE, told(s.n))
		}
	}
}

// P2: the order of the edges does not count.
func TestTheOrderOfEdgesDoesNotCount(t *testing.T) {
	for n, marks := range bigger() {
		want := made(t, n, marks)
		turned := n
		turned.Edges = slices.Clone(n.Edges)
		slices.Reverse(turned.Edges)
		is(t, turned, marks, made(t, turned, marks), want)
	}
}
