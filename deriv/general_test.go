package deriv_test

import (
	"math"
	"slices"
	"strings"
	"testing"

	"bosket/api"
	"bosket/deriv"
	"bosket/rex"
)

// samples are lists of pieces of all kinds, valid or not.
func samples(t *testing.T) []api.Regex {
	l := append(refused(), stars(400), nested(132), slices.Repeat(api.Regex{cat}, 500), slices.Repeat(api.Regex{{Kind: -1}}, 500), stars(100000), rex.Word(strings.Repeat("a", 5000)))
	rows([]api.Piece{none, a, cat, alt, star, opt, {Kind: 7}, {Kind: api.One}}, 3, func(r api.Regex) { l = append(l, r) })
	for _, s := range larger() {
		l = append(l, parsed(t, s))
	}
	return l
}

// P1: every call ends and does not panic, even for pieces for which the document tells nothing.
func TestEveryCallEnds(t *testing.T) {
	long := strings.Repeat("ab", 500)
	for _, r := range samples(t) {
		deriv.Empty(r)
		deriv.First(r)
		for _, x := range []byte{0, 'a', 'b', 255} {
			deriv.By(r, x)
		}
		for _, most := range []int{math.MinInt, -1, 0, 1, 400, math.MaxInt} {
			deriv.Through(r, "", most)
			deriv.Through(r, "a\xff", most)
			deriv.Through(r, long, most)
		}
	}
}

// hostile returns valid expressions of which something remains behind every text of a and b: with more different results than could be kept, or with results that grow with each byte if equal parts are not told to be equal.
func hostile(t *testing.T) []api.Regex {
	return []api.Regex{
		parsed(t, "(a|b)*a"+strings.Repeat("(a|b)", 90)),
		parsed(t, "("+strings.Repeat("a?[ab]?b?", 30)+")*"),
		parsed(t, strings.Repeat("(", 99)+"a*"+strings.Repeat("[ab])*", 99)),
		parsed(t, strings.Repeat("(", 98)+"[ab]*"+strings.Repeat("[ab]*)*", 98)),
	}
}

// P1: what remains does not grow with the text.
func TestLongTextsAreRead(t *testing.T) {
	text := noise(api.MaxText / 16)
	for _, r := range hostile(t) {
		got, n := deriv.Through(r, text, math.MaxInt)
		if got.Void || n != len(text) {
			t.Errorf("Through(%s): %v, %d", brief(r), got.Void, n)
		}
		if len(got.R) > api.MaxRegex*api.MaxRegex {
			t.Errorf("Through(%s): %d pieces", brief(r), len(got.R))
		}
	}
	for _, signs := range []api.Regex{{star}, {plus}, {opt, plus}, {star, plus, opt}, {plus, star}, {plus, opt}} {
		r := append(api.Regex{a}, slices.Repeat(signs, 399/len(signs))...)
		got, n := deriv.Through(r, strings.Repeat("a", api.MaxText), api.MaxRegex)
		if got.Void || n != api.MaxText {
			t.Errorf("Through a and many signs: %v, %d", got.Void, n)
		}
	}
}

// noise returns a text of a and b without a plain rule.
func noise(n int) string {
	var s strings.Builder
	for x := uint32(1); s.Len() < n; {
		x = x*1664525 + 1013904223
		s.WriteByte("ab"[x>>31])
	}
	return s.String()
}

// P2, rule 4: arguments are neither modified nor kept, not even behind their lengths.
func TestArgumentsStayAsTheyAre(t *testing.T) {
	calls := func(r api.Regex) []api.Regex {
		deriv.Empty(r)
		deriv.First(r)
		l := []api.Regex{deriv.By(r, 'a').R, deriv.By(r, 'b').R}
		for _, s := range []string{"", "a", "ab", "abab"} {
			for _, most := range []int{0, 4, 1000} {
				left, _ := deriv.Through(r, s, most)
				l = append(l, left.R)
			}
		}
		return l
	}
	for _, r := range samples(t) {
		room := append(slices.Clone(r), slices.Repeat(api.Regex{b}, 9)...)
		before := slices.Clone(room)
		want := copies(calls(room[:len(r)]))
		for _, got := range calls(room[:len(r)]) {
			spoil(got)
		}
		if !slices.Equal(room, before) {
			t.Fatalf("%s has become %s", brief(before), brief(room))
		}
		results := calls(room[:len(r)])
		spoil(room)
		if !slices.EqualFunc(results, want, slices.Equal) {
			t.Fatalf("the results of %s have become others", brief(before))
		}
	}
}

// P2: a call answers the same, whatever was called before, and calls that failed are not to be noticed.
func TestCallsAnswerTheSameAgain(t *testing.T) {
	type answer struct {
		empty, void bool
		first       api.Set
		text        string
		read        int
	}
	round := func() []answer {
		var l []answer
		for _, r := range slices.Concat(samples(t), hostile(t)) {
			left, n := deriv.Through(r, "abaab", 600)
			l = append(l, answer{deriv.Empty(r), left.Void, deriv.First(r), full(left.R), n})
			left = deriv.By(r, 'a')
			l = append(l, answer{false, left.Void, api.Set{}, full(left.R), 0})
		}
		return l
	}
	before := round()
	for _, r := range refused() {
		deriv.Through(r, "ab", 10)
	}
	for range 3 {
		if !slices.Equal(before, round()) {
			t.Fatal("other answers")
		}
	}
}

// full returns a text that tells an expression of any size piece by piece.
func full(r api.Regex) string {
	var s strings.Builder
	for _, p := range r {
		s.WriteByte(byte(p.Kind))
		for _, word := range p.Set {
			for i := range 8 {
				s.WriteByte(byte(word >> (8 * i)))
			}
		}
	}
	return s.String()
}

// spoil overwrites pieces, those behind the length too.
func spoil(r api.Regex) {
	r = r[:cap(r)]
	for i := range r {
		r[i] = api.Piece{Kind: 99}
	}
}

func copies(l []api.Regex) []api.Regex {
	var all []api.Regex
	for _, r := range l {
		all = append(all, slices.Clone(r))
	}
	return all
}
