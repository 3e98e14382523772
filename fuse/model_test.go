package fuse_test

import (
	"fmt"
	"iter"
	"math"
	"slices"
	"strings"
	"testing"

	"bosket/api"
	"bosket/byteset"
	"bosket/rules"
)

type rows = [][]int

// classes returns the classes of sets of bytes.
func classes(sets ...string) [256]uint8 {
	var l []api.Set
	for _, s := range sets {
		l = append(l, byteset.Of([]byte(s)...))
	}
	return byteset.Classes(l...)
}

// blanked returns an automaton over the classes of a blank (1), of a line feed (2), of tabs and returns (3) and of all other bytes (0).
func blanked(next rows, mark ...int) api.DFA {
	d := api.DFA{Next: next, Mark: mark}
	for i, s := range []string{" ", "\n", "\t\r"} {
		for _, b := range []byte(s) {
			d.Class[b] = uint8(i + 1)
		}
	}
	return d
}

// told returns an automaton for messages.
func told(d api.DFA) string {
	counts := map[uint8]int{}
	for _, class := range d.Class {
		counts[class]++
	}
	return fmt.Sprintf("%d states, bytes by classes %v, %v, marks %v", len(d.Next), counts, d.Next[:min(len(d.Next), 20)], d.Mark[:min(len(d.Mark), 20)])
}

// equal holds two automata against each other.
func equal(a, b api.DFA) bool {
	return a.Class == b.Class && slices.EqualFunc(a.Next, b.Next, slices.Equal) && slices.Equal(a.Mark, b.Mark)
}

// clone returns an automaton that shares nothing with the one that was given.
func clone(d api.DFA) api.DFA {
	next := d.Next
	d.Next, d.Mark = nil, slices.Clone(d.Mark)
	for _, row := range next {
		d.Next = append(d.Next, slices.Clone(row))
	}
	return d
}

// texts returns all texts of the letters, up to a length, the shortest first.
func texts(letters string, length int) []string {
	all := []string{""}
	for i := 0; len(all[i]) < length; i++ {
		for _, c := range []byte(letters) {
			all = append(all, all[i]+string([]byte{c}))
		}
	}
	return all
}

// lists returns all lists of the texts, up to a length, the shortest first.
func lists(of []string, length int) [][]string {
	all := [][]string{nil}
	for i := 0; i < len(all) && len(all[i]) < length; i++ {
		for _, s := range of {
			all = append(all, append(slices.Clone(all[i]), s))
		}
	}
	return all
}

// outside returns numbers that are not those of so many rules.
func outside(count int) []int {
	return []int{-1, -2, math.MinInt, math.MinInt + 1, -1 << 31, -1 << 32, count, count + 1, math.MaxInt, math.MaxInt - 1, 1 << 15, 1<<15 - 1, 1 << 31, 1 << 32}
}

// machine returns the automaton of rules with these expressions.
func machine(t *testing.T, regexes ...string) api.DFA {
	t.Helper()
	var l []api.Rule
	for i, s := range regexes {
		l = append(l, api.Rule{Name: fmt.Sprintf("R%d", i), Regex: s})
	}
	d, err := rules.Machine(l)
	if err != api.OK {
		t.Fatalf("%q: error %d", regexes, err)
	}
	return d
}

// A source tells numbers without a plain rule, always the same ones.
type source uint64

func (x *source) below(n int) int {
	*x = *x*6364136223846793005 + 1442695040888963407
	return int(uint64(*x)>>33) % n
}

// text returns a text of the letters with up to so many bytes.
func (x *source) text(letters string, most int) string {
	b := make([]byte, x.below(most+1))
	for i := range b {
		b[i] = letters[x.below(len(letters))]
	}
	return string(b)
}

// words returns up to so many of the texts, in any order and more than once.
func (x *source) words(of []string, most int) []string {
	var l []string
	for range x.below(most + 1) {
		l = append(l, of[x.below(len(of))])
	}
	return l
}

// flags returns so many flags.
func (x *source) flags(count int) []bool {
	l := make([]bool, count)
	for i := range l {
		l[i] = x.below(2) == 0
	}
	return l
}

// numbersTo returns all rows of so many numbers from -1 to one less than a bound.
func numbersTo(bound, length int) [][]int {
	l := [][]int{nil}
	for range length {
		var longer [][]int
		for _, row := range l {
			for x := -1; x < bound; x++ {
				longer = append(longer, append(slices.Clone(row), x))
			}
		}
		l = longer
	}
	return l
}

// changed yields automata, each with some entries and marks of one of these changed.
func changed(x source, count int, of ...api.DFA) iter.Seq[api.DFA] {
	return func(yield func(api.DFA) bool) {
		for i := range count {
			d := clone(of[i%len(of)])
			if x.below(3) == 0 { // one more state
				d.Next, d.Mark = append(d.Next, slices.Clone(d.Next[x.below(len(d.Next))])), append(d.Mark, x.below(4)-1)
			}
			for range 1 + x.below(3) {
				row := d.Next[x.below(len(d.Next))]
				row[x.below(len(row))] = x.below(len(d.Next)+1) - 1
			}
			if x.below(3) == 0 {
				d.Mark[x.below(len(d.Mark))] = x.below(6) - 1
			}
			if !yield(d) {
				return
			}
		}
	}
}

// markOf returns the mark of a text, or -1.
func markOf(d api.DFA, s string) int {
	at := 0
	for _, b := range []byte(s) {
		if at = d.Next[at][d.Class[b]]; at < 0 {
			return -1
		}
	}
	return d.Mark[at]
}

// longest tries each prefix of a text: it returns the longest token with which the text begins, and its mark.
func longest(d api.DFA, s string) (token string, mark int) {
	for n := len(s); n > 0; n-- {
		if mark := markOf(d, s[:n]); mark >= 0 {
			return s[:n], mark
		}
	}
	return "", -1
}

// joined puts a blank ahead of each text that has a flag: the one at the place before its own.
func joined(texts []string, gaps []bool) string {
	s := ""
	for i, text := range texts {
		if i > 0 && i <= len(gaps) && gaps[i-1] {
			s += " "
		}
		s += text
	}
	return s
}

// read returns the texts of the tokens that are no blanks, and whether there are only tokens.
func read(d api.DFA, blank int, s string) (texts []string, whole bool) {
	for s != "" {
		token, mark := longest(d, s)
		if mark < 0 {
			return nil, false
		}
		if mark != blank {
			texts = append(texts, token)
		}
		s = s[len(token):]
	}
	return texts, true
}

// split reports whether a string is read as these texts.
func split(d api.DFA, blank int, s string, texts []string) bool {
	if len(s) > 65536 {
		return false
	}
	got, whole := read(d, blank, s)
	return whole && slices.Equal(got, texts)
}

// gapped tells the gaps in rounds, and how many rounds removed one.
func gapped(d api.DFA, blank int, texts []string) (gaps []bool, rounds int, err api.Errno) {
	if len(texts) >= 301 {
		return nil, 0, 6
	}
	for i := 1; i < len(texts); i++ {
		gaps = append(gaps, true)
	}
	if !split(d, blank, joined(texts, gaps), texts) {
		return nil, 0, 7
	}
	for {
		before := slices.Clone(gaps)
		for i := range gaps {
			without := slices.Concat(gaps[:i], []bool{false}, gaps[i+1:])
			if split(d, blank, joined(texts, without), texts) {
				gaps = without
			}
		}
		if slices.Equal(gaps, before) {
			return gaps, rounds, 0
		}
		rounds++
	}
}

// paths tells from which states which states are reached, by way of each state in turn.
func paths(d api.DFA) [][]bool {
	all := make([][]bool, len(d.Next))
	for from, row := range d.Next {
		all[from] = make([]bool, len(d.Next))
		all[from][from] = true
		for _, to := range row {
			if to >= 0 {
				all[from][to] = true
			}
		}
	}
	for by := range all {
		for from := range all {
			for to := range all {
				all[from][to] = all[from][to] || all[from][by] && all[by][to]
			}
		}
	}
	return all
}

// safe tells what Safe should, sentence by sentence.
func safe(d api.DFA, kinds []int, blank int) bool {
	way := paths(d)
	leads := func(from int, b byte) bool { // to where a mark can be reached
		to := d.Next[from][d.Class[b]]
		return to >= 0 && marked(d, way[to])
	}
	good := blank >= 0 && markOf(d, " ") == blank && markOf(d, "\n") == blank
	for state, mark := range d.Mark {
		if way[0][state] && mark >= 0 && mark != blank {
			comment := mark < len(kinds) && kinds[mark] == 2
			good = good && !leads(state, 10) && (comment || !leads(state, 32))
		}
	}
	for _, b := range []byte{32, 10, 9, 13} {
		from := d.Next[0][d.Class[b]]
		if from < 0 {
			continue
		}
		for c := range 256 {
			good = good && (c == 32 || c == 10 || c == 9 || c == 13 || !leads(from, byte(c)))
		}
		for to, mark := range d.Mark {
			good = good && (!way[from][to] || mark < 0 || mark == blank)
		}
	}
	return good
}

// marked reports whether one of these states has a mark.
func marked(d api.DFA, states []bool) bool {
	for state, in := range states {
		if in && d.Mark[state] >= 0 {
			return true
		}
	}
	return false
}

// ended returns texts with this string behind each of them.
func ended(texts []string, with string) string {
	var b strings.Builder
	for _, text := range texts {
		b.WriteString(text + with)
	}
	return b.String()
}
