package gram_test

import (
	"math"
	"reflect"
	"runtime"
	"slices"
	"strings"
	"testing"

	"bosket/api"
	"bosket/gram"
)

// answers are what the functions return for a grammar.
type answers struct {
	Fault  gram.Fault
	Has    []bool
	Names  []string
	Found  []api.Sym
	Cons   []int
	Of     [][]int
	Parens []int
	Lines  []string
	Around []bool
	Same   bool
}

// numbers are some that are in lists, next to them and far from them.
func numbers() []int { return append(outside(3), 0, 1, 2, 5, 9, 10) }

func ask(g api.Grammar) answers {
	a := answers{Fault: gram.Check(g), Same: gram.Same(g, g)}
	for _, n := range numbers() {
		a.Has = append(a.Has, gram.Has(g, srt(n)), gram.Has(g, tok(n)))
		a.Names = append(a.Names, gram.Name(g, srt(n)), gram.Name(g, tok(n)))
		a.Of, a.Parens = append(a.Of, gram.Of(g, n)), append(a.Parens, gram.Paren(g, n))
		a.Lines = append(a.Lines, gram.Line(g, n))
	}
	for _, name := range append(noNames(), "T0", "S1", "C2", "X3", "E", "NUM", "Add") {
		s, _ := gram.Find(g, name)
		a.Found, a.Cons = append(a.Found, s), append(a.Cons, gram.Con(g, name))
	}
	for _, p := range g.Prods {
		a.Around = append(a.Around, gram.Encloses(p))
	}
	return a
}

// copied returns answers that share no list with these.
func (a answers) copied() answers {
	of := a.Of
	a.Of = nil
	for _, l := range of {
		a.Of = append(a.Of, slices.Clone(l))
	}
	return a
}

// spoil overwrites all elements of a list, those behind its length too.
func spoil[T any](l []T, with T) {
	l = l[:cap(l)]
	for i := range l {
		l[i] = with
	}
}

// spoilAll overwrites everything that a grammar holds.
func spoilAll(g api.Grammar) {
	for _, p := range g.Prods {
		spoil(p.Body, srt(77))
		spoil(p.Hints, 77)
	}
	for _, level := range g.Levels {
		spoil(level.Rules, 77)
	}
	spoil(g.Rules, api.Rule{Name: "X"})
	spoil(g.Sorts, "X")
	spoil(g.Prods, api.Prod{Sort: 77, Con: "X"})
	spoil(g.Levels, api.Level{Side: 77})
}

// roomy returns a grammar whose lists have spare capacity, which holds something.
func roomy(g api.Grammar) api.Grammar {
	g = clone(g)
	for i, p := range g.Prods {
		g.Prods[i].Body = append(p.Body, srt(0), tok(0))[:len(p.Body)]
		g.Prods[i].Hints = append(p.Hints, 3, 9)[:len(p.Hints)]
	}
	for i, level := range g.Levels {
		g.Levels[i].Rules = append(level.Rules, 0, 1)[:len(level.Rules)]
	}
	g.Rules = append(g.Rules, api.Rule{Name: "SPARE", Regex: "s"}, api.Rule{Name: "NUM", Regex: "n"})[:len(g.Rules)]
	g.Sorts = append(g.Sorts, "Spare", "E")[:len(g.Sorts)]
	g.Prods = append(g.Prods, api.Prod{Con: "Spare", Paren: true}, api.Prod{Con: "Add"})[:len(g.Prods)]
	g.Levels = append(g.Levels, api.Level{Side: 1, Rules: []int{0}}, api.Level{})[:len(g.Levels)]
	return g
}

// whole returns a grammar with its lists as long as their capacity, so that what they hold there can be told.
func whole(g api.Grammar) api.Grammar {
	g.Rules, g.Sorts, g.Prods, g.Levels = g.Rules[:cap(g.Rules)], g.Sorts[:cap(g.Sorts)], slices.Clone(g.Prods[:cap(g.Prods)]), slices.Clone(g.Levels[:cap(g.Levels)])
	for i, p := range g.Prods {
		g.Prods[i].Body, g.Prods[i].Hints = p.Body[:cap(p.Body)], p.Hints[:cap(p.Hints)]
	}
	for i, level := range g.Levels {
		g.Levels[i].Rules = level.Rules[:cap(level.Rules)]
	}
	return g
}

// P2, rule 4: grammars are neither modified nor kept, in the spare capacity of their lists neither, and what is returned shares nothing with them.
func TestGrammarsStayAsTheyAre(t *testing.T) {
	for _, sample := range append(samples(500), sums(), odd()) {
		g := roomy(sample)
		before := clone(whole(g))

		first := ask(g)
		want := first.copied()
		for _, l := range first.Of {
			spoil(l, 77)
		}
		if !equal(whole(g), before) {
			t.Fatalf("%s, before %s", brief(whole(g)), brief(before))
		}
		again := ask(g)
		spoilAll(g)
		if !reflect.DeepEqual(again, want) {
			t.Fatalf("what was told of %s has changed", brief(sample))
		}
	}
}

// P2, rule 4: a call answers the same, whatever was called before.
func TestCallsAnswerTheSameAgain(t *testing.T) {
	all := append(samples(500), sums(), odd(), api.Grammar{})
	var before []answers
	for _, g := range all {
		before = append(before, ask(g))
	}
	for i, g := range slices.Backward(all) {
		if !reflect.DeepEqual(ask(g), before[i]) {
			t.Fatalf("other answers for %s", brief(g))
		}
	}
}

// allocated returns how many bytes a call allocates, or somewhat more.
func allocated(call func()) uint64 {
	var before, after runtime.MemStats
	runtime.ReadMemStats(&before)
	call()
	runtime.ReadMemStats(&after)
	return after.TotalAlloc - before.TotalAlloc
}

// P2, rule 4: texts that are returned are not parts of the grammar, since they take memory of their own.
func TestTextsAreNew(t *testing.T) {
	const size = 100000
	long := strings.Repeat("a", size)
	g := api.Grammar{Rules: []api.Rule{{Name: long}}, Sorts: []string{long}, Prods: []api.Prod{{Con: long}}}
	for what, call := range map[string]func() string{
		"a rule":       func() string { return gram.Name(g, tok(0)) },
		"a sort":       func() string { return gram.Name(g, srt(0)) },
		"a production": func() string { return gram.Line(g, 0) },
	} {
		var s string
		if n := allocated(func() { s = call() }); n < size || len(s) < size {
			t.Errorf("%s: %d bytes for %d", what, n, len(s))
		}
	}
}

// P1: every call ends and does not panic.
func TestEveryCallEnds(t *testing.T) {
	for _, g := range append(samples(500), sums(), odd(), api.Grammar{}) {
		for _, n := range numbers() {
			g.Start = n
			ask(g)
		}
	}
	for _, sort := range numbers() {
		for _, n := range numbers() {
			gram.Encloses(api.Prod{Sort: sort, Body: []api.Sym{tok(n), srt(n), tok(sort)}})
			gram.Encloses(api.Prod{Sort: sort, Body: []api.Sym{tok(n)}})
		}
	}
	gram.Same(api.Grammar{}, odd())
	gram.Same(odd(), api.Grammar{})
}

// P1: lists and texts that are very long.
func TestVeryBigGrammars(t *testing.T) {
	const count = 1 << 18
	long := strings.Repeat("a", count)
	big := sums()
	big.Sorts, big.Levels = append(big.Sorts, long), slices.Repeat(big.Levels, count)
	big.Prods = slices.Repeat(big.Prods, count/8)
	big.Prods[0].Body, big.Prods[0].Hints = slices.Repeat([]api.Sym{tok(plus)}, count), make([]int, count-1)
	big.Levels[0].Rules = slices.Repeat([]int{eq}, count)
	ask(big)

	checked(t, "a long name", big, gram.Fault{Why: api.ErrName, List: gram.Sorts, At: 2})
	big.Sorts = big.Sorts[:2]
	checked(t, "many productions", big, gram.Fault{Why: api.ErrBig, List: gram.Prods, At: len(big.Prods)})
	big.Prods = big.Prods[:1]
	checked(t, "many symbols", big, gram.Fault{Why: api.ErrBig, List: gram.Prods})
	big.Prods = nil
	checked(t, "a rule very often", big, gram.Fault{Why: api.ErrTwice, List: gram.Levels})
	big.Levels[0].Rules = []int{math.MinInt}
	checked(t, "many levels", big, gram.Fault{Why: api.ErrNobody, List: gram.Levels})
}
