package lanes_test

import (
	"math"
	"slices"
	"strings"

	"bosket/api"
	"bosket/lanes"
)

// kinds are those of the rules of the tokens that are tried: of each kind there is one rule, then come numbers that are no kinds, and another rule of each kind.
func kinds() []int {
	return []int{api.Main, api.Skip, api.Comment, 3, -1, math.MaxInt, math.MinInt, api.Comment, api.Skip, api.Main}
}

// outside are numbers of rules that are not there.
func outside() []int {
	return []int{-1, -2, math.MinInt, math.MinInt + 1, -1 << 31, -1 << 32, len(kinds()), len(kinds()) + 1, 1 << 31, 1 << 32, math.MaxInt, math.MaxInt - 1}
}

// letters are the tokens of the lists that are tried: of each kind, of none and of no rule, with line breaks and without.
func letters() []api.Token {
	return []api.Token{{Rule: 0, Text: "a"}, {Rule: 0, Text: "a\n"}, {Rule: 1, Text: " "}, {Rule: 1, Text: "\n"}, {Rule: 2, Text: "#"}, {Rule: 2, Text: "#\n"}, {Rule: 3, Text: "\nx"}, {Rule: -1, Text: "y"}}
}

// lists returns all lists of some tokens, up to a length, the shortest first. Each token has the index behind the one ahead of it.
func lists(letters []api.Token, length int) [][]api.Token {
	all := [][]api.Token{nil}
	for i := 0; len(all[i]) < length; i++ {
		for _, t := range letters {
			all = append(all, placed(append(slices.Clone(all[i]), t)))
		}
	}
	return all
}

// placed gives each token of a list the index behind the one ahead of it.
func placed(l []api.Token) []api.Token {
	at := 0
	for i := range l {
		l[i].At = at
		at += len(l[i].Text)
	}
	return l
}

// A source tells numbers without a plain rule, always the same ones.
type source uint64

func (x *source) below(n int) int {
	*x = *x*6364136223846793005 + 1442695040888963407
	return int(uint64(*x)>>33) % n
}

// text returns a text of up to so many bytes.
func (x *source) text(most int) string {
	b := make([]byte, x.below(most+1))
	for i := range b {
		b[i] = "a \n\r\v#\xc3\x8a\x00\xff"[x.below(10)]
	}
	return string(b)
}

// tokens returns up to so many tokens of all rules and of none, at indices that rise or do not.
func (x *source) tokens(most int) []api.Token {
	var l []api.Token
	for range x.below(most + 1) {
		rule := x.below(len(kinds()))
		if x.below(10) == 0 {
			rule = outside()[x.below(len(outside()))]
		}
		l = append(l, api.Token{Rule: rule, Text: x.text(4), At: x.below(12) - 3})
	}
	if x.below(2) == 0 {
		return placed(l)
	}
	return l
}

// samples returns lists of tokens of all sorts.
func samples() [][]api.Token {
	l := lists(letters(), 3)
	x := source(1)
	for range 500 {
		l = append(l, x.tokens(30))
	}
	return l
}

// plain returns the kind that counts in notes.
func plain(kinds []int, t api.Token) int {
	for rule, kind := range kinds {
		if rule == t.Rule && (kind == 0 || kind == 2) {
			return kind
		}
	}
	return 1
}

// noted tells the notes of a list from the texts between each comment and its neighbours that are not skipped.
func noted(kinds []int, l []api.Token) []lanes.Note {
	stands := []int{-1} // where main tokens and comments stand, and the ends of the list
	for i, t := range l {
		if plain(kinds, t) != 1 {
			stands = append(stands, i)
		}
	}
	stands = append(stands, len(l))

	joined := func(from, to int) string {
		var b strings.Builder
		for _, t := range l[from:to] {
			b.WriteString(t.Text)
		}
		return b.String()
	}
	var notes []lanes.Note
	mains := 0
	for n, i := range stands[1 : len(stands)-1] {
		if plain(kinds, l[i]) == 0 {
			mains++
			continue
		}
		last := stands[n]
		from := last + 1
		if last >= 0 && plain(kinds, l[last]) == 2 {
			from = last
		}
		before := last < 0 || strings.ContainsRune(joined(from, i), 10)
		behind := strings.ContainsRune(joined(i, stands[n+2]), 10)
		notes = append(notes, lanes.Note{Token: l[i], Ahead: mains, Before: before, Behind: behind})
	}
	return notes
}

// merged tells the merge of two lists by how many tokens of b come ahead of each one of a.
func merged(a, b []api.Token) []api.Token {
	var l []api.Token
	for _, t := range a {
		taken := 0
		for taken < len(b) && b[taken].At < t.At {
			taken++
		}
		l = append(append(l, b[:taken]...), t)
		b = b[taken:]
	}
	return append(l, b...)
}
