package rex_test

import (
	"math"
	"slices"
	"strings"
	"testing"

	"bosket/api"
	"bosket/byteset"
	"bosket/rex"
)

// samples are lists of pieces of all kinds, valid or not.
func samples() []api.Regex {
	l := []api.Regex{
		{{Kind: math.MinInt}}, {{Kind: math.MaxInt}, star}, {{Kind: api.One}}, {{Kind: api.Star, Set: a.Set}},
		stars(400), stars(401), slices.Repeat(api.Regex{cat}, 500), slices.Repeat(api.Regex{{Kind: -1}}, 500), slices.Repeat(api.Regex{a}, 500),
	}
	rows([]api.Piece{none, a, cat, star, {Kind: -1}}, 4, func(r api.Regex) { l = append(l, r) })
	return l
}

// wrongTexts are texts of all kinds, most of them of no expression.
func wrongTexts() []string {
	return []string{
		"", "a", "(", "[", "[^", "[a-", `\`, `\x`, "a|", ")", "é\xff\x00", every(), "[" + every() + "]",
		strings.Repeat("(", 1600), strings.Repeat("[", 1600), strings.Repeat("|", 1600), strings.Repeat(`\`, 1600),
		strings.Repeat("(a|", 500), strings.Repeat("a*", 800), strings.Repeat("(", 20*api.MaxText),
	}
}

// P1: every call ends and does not panic, even for pieces for which the document tells nothing.
func TestEveryCallEnds(t *testing.T) {
	indices := []int{math.MinInt, -2, -1, 0, 1, 2, 3, 4, 399, 400, 401, 500, math.MaxInt}
	for _, r := range samples() {
		rex.Check(r)
		rex.Show(r)
		rex.Sets(r)
		rex.Same(r, r[:len(r)/2])
		for _, at := range indices {
			rex.Start(r, at)
		}
		rex.Parts(r)
		for kind := -2; kind < 9; kind++ {
			rex.Takes(kind)
			rex.Join(kind, r)
			rex.Join(kind, r, r)
			rex.Join(kind, r, r, r)
		}
	}
	for _, s := range wrongTexts() {
		rex.Parse(s)
		rex.Word(s)
	}
}

// P1: expressions with more pieces than Check allows are parted too.
func TestPartsOfBigOnes(t *testing.T) {
	x := rex.Word(strings.Repeat("a", 5000))
	parts := rex.Parts(rex.Join(api.Alt, x, rex.Join(api.Star, x)))
	if len(parts) != 2 || !slices.Equal(parts[0], x) || len(parts[1]) != len(x)+1 {
		t.Errorf("%d parts", len(parts))
	}
}

// P2, rule 4: arguments are neither modified nor kept, not even behind their lengths.
func TestArgumentsStayAsTheyAre(t *testing.T) {
	for _, r := range append(samples(), valid()[:200]...) {
		room := append(slices.Clone(r), slices.Repeat(api.Regex{c}, 9)...)
		before := slices.Clone(room)
		arg := room[:len(r)]
		rex.Check(arg)
		rex.Show(arg)
		rex.Sets(arg)
		rex.Same(arg, arg)
		for at := range arg {
			rex.Start(arg, at)
		}
		results := rex.Parts(arg)
		results = append(results, rex.Join(api.Star, arg), rex.Join(api.Cat, arg, arg))
		want := copies(results)
		for _, got := range results {
			spoil(got)
		}
		if !slices.Equal(room, before) {
			t.Fatalf("%v has become %v", before, room)
		}
		results = append(rex.Parts(arg), rex.Join(api.Star, arg), rex.Join(api.Cat, arg, arg))
		spoil(room)
		if !slices.EqualFunc(results, want, slices.Equal) {
			t.Fatalf("%v have become %v", want, results)
		}
	}
}

// P2, rule 4: the operands are neither modified nor kept as a list.
func TestJoinLeavesItsOperands(t *testing.T) {
	parts := []api.Regex{{a}, {b}, {c}}
	rex.Join(api.Cat, parts[:2]...)
	if !slices.EqualFunc(parts, []api.Regex{{a}, {b}, {c}}, slices.Equal) {
		t.Errorf("%v", parts)
	}
}

// P2, rule 4: no two lists of results share anything.
func TestResultsAreNew(t *testing.T) {
	parts := rex.Parts(api.Regex{a, b, star, cat})
	spoil(parts[0])
	if !slices.Equal(parts[1], api.Regex{b, star}) {
		t.Errorf("%v", parts[1])
	}
	for _, call := range []func() api.Regex{
		func() api.Regex { return rex.Word("") },
		func() api.Regex { return rex.Word("ab") },
		func() api.Regex { r, _ := rex.Parse("a[b-c]*|.~"); return r },
		func() api.Regex { r, _ := rex.Parse("~"); return r },
	} {
		got := call()
		want := slices.Clone(got)
		spoil(got)
		if got := call(); !slices.Equal(got, want) {
			t.Errorf("%v, and then %v", want, got)
		}
	}
	r := api.Regex{a, b, cat}
	l := rex.Sets(r)
	l[0] = byteset.Full()
	if r[0] != a || rex.Sets(r)[0] != a.Set {
		t.Error("Sets returns what is its argument's")
	}
}

// P2: a call answers the same, whatever was called before, and calls that failed are not to be noticed.
func TestCallsAnswerTheSameAgain(t *testing.T) {
	round := func() []any {
		var l []any
		for _, r := range samples() {
			l = append(l, rex.Check(r), rex.Show(r), len(rex.Sets(r)), len(rex.Parts(r)))
		}
		for _, s := range append(wrongTexts(), "a|b", "(a|[b-c])*") {
			r, e := rex.Parse(s)
			l = append(l, rex.Show(r), e)
		}
		return l
	}
	before := round()
	for _, s := range wrongTexts() {
		rex.Parse(s)
	}
	if after := round(); !slices.Equal(before, after) {
		t.Errorf("%v, and then %v", before, after)
	}
}

// spoil overwrites pieces, those behind the length too.
func spoil(r api.Regex) {
	r = r[:cap(r)]
	for i := range r {
		r[i] = api.Piece{Kind: 99}
	}
}

func copies(l []api.Regex) []api.Regex {
	var all []api.Regex
	for _, r := range l {
		all = append(all, slices.Clone(r))
	}
	return all
}
