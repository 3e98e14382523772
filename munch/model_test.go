package munch_test

import (
	"fmt"
	"iter"
	"math"
	"slices"
	"strings"
	"testing"

	"bosket/api"
	"bosket/byteset"
	"bosket/munch"
	"bosket/rules"
)

type rows = [][]int

// classes returns the classes of sets of bytes.
func classes(sets ...string) [256]uint8 {
	var l []api.Set
	for _, s := range sets {
		l = append(l, byteset.Of([]byte(s)...))
	}
	return byteset.Classes(l...)
}

// plain returns an automaton over the classes a and b (1 and 2; all other bytes are of class 0).
func plain(next rows, mark ...int) api.DFA {
	return api.DFA{Class: classes("a", "b"), Next: next, Mark: mark}
}

// told returns an automaton for messages.
func told(d api.DFA) string {
	counts := map[uint8]int{}
	for _, class := range d.Class {
		counts[class]++
	}
	return fmt.Sprintf("%d states, bytes by classes %v, %v, marks %v", len(d.Next), counts, d.Next[:min(len(d.Next), 20)], d.Mark[:min(len(d.Mark), 20)])
}

// listed returns tokens for messages.
func listed(l []api.Token) string {
	var b strings.Builder
	fmt.Fprintf(&b, "%d tokens", len(l))
	for _, token := range l[:min(len(l), 10)] {
		fmt.Fprintf(&b, ", %d at %d: %.30q", token.Rule, token.At, token.Text)
	}
	return b.String()
}

// equal holds two automata against each other.
func equal(a, b api.DFA) bool {
	return a.Class == b.Class && slices.EqualFunc(a.Next, b.Next, slices.Equal) && slices.Equal(a.Mark, b.Mark)
}

// clone returns an automaton that shares nothing with the one that was given.
func clone(d api.DFA) api.DFA {
	next := d.Next
	d.Next, d.Mark = nil, slices.Clone(d.Mark)
	for _, row := range next {
		d.Next = append(d.Next, slices.Clone(row))
	}
	return d
}

// texts returns all texts of the letters, up to a length, the shortest first.
func texts(letters string, length int) []string {
	all := []string{""}
	for i := 0; len(all[i]) < length; i++ {
		for _, c := range []byte(letters) {
			all = append(all, all[i]+string([]byte{c}))
		}
	}
	return all
}

// outside returns numbers that are no index of a text of so many bytes.
func outside(length int) []int {
	return []int{-1, -2, -length, -length - 1, math.MinInt, math.MinInt + 1, -1 << 31, -1 << 32, length + 1, length + 2, 2*length + 1, math.MaxInt, math.MaxInt - 1, 1 << 31, 1 << 32}
}

// machine returns the automaton of rules with these expressions.
func machine(t *testing.T, regexes ...string) api.DFA {
	t.Helper()
	var l []api.Rule
	for i, s := range regexes {
		l = append(l, api.Rule{Name: fmt.Sprintf("R%d", i), Regex: s})
	}
	d, err := rules.Machine(l)
	if err != api.OK {
		t.Fatalf("%q: error %d", regexes, err)
	}
	return d
}

// A source tells numbers without a plain rule, always the same ones.
type source uint64

func (x *source) below(n int) int {
	*x = *x*6364136223846793005 + 1442695040888963407
	return int(uint64(*x)>>33) % n
}

// text returns a text of the letters with up to so many bytes.
func (x *source) text(letters string, most int) string {
	b := make([]byte, x.below(most+1))
	for i := range b {
		b[i] = letters[x.below(len(letters))]
	}
	return string(b)
}

// numbersTo returns all rows of so many numbers from -1 to one less than a bound.
func numbersTo(bound, length int) [][]int {
	l := [][]int{nil}
	for range length {
		var longer [][]int
		for _, row := range l {
			for x := -1; x < bound; x++ {
				longer = append(longer, append(slices.Clone(row), x))
			}
		}
		l = longer
	}
	return l
}

// small yields all automata of up to two states, over all bytes as one class or over a and all others, with marks up to 1.
func small() iter.Seq[api.DFA] {
	return func(yield func(api.DFA) bool) {
		for _, size := range [][2]int{{1, 1}, {1, 2}, {2, 1}, {2, 2}} {
			states, count := size[0], size[1]
			class := [][256]uint8{classes(), classes("a")}[count-1]
			for _, entries := range numbersTo(states, states*count) {
				next := slices.Collect(slices.Chunk(entries, count))
				for _, mark := range numbersTo(2, states) {
					if !yield(clone(api.DFA{Class: class, Next: next, Mark: mark})) {
						return
					}
				}
			}
		}
	}
}

// bigger yields automata of up to 12 states and 5 classes; in some of them most entries lead nowhere, or most states have no mark.
func bigger(x source, count int) iter.Seq[api.DFA] {
	sets := []string{"a", "b", "ab", "bc", "\x00", "b\xff", "\x80\x7f"}
	return func(yield func(api.DFA) bool) {
		for range count {
			d := api.DFA{Class: classes(sets[:x.below(len(sets))]...)}
			states, dead, unmarked := 1+x.below(12), x.below(5), x.below(5)
			for range states {
				var row []int
				for range byteset.Count(d.Class) {
					to := -1
					if x.below(5) >= dead {
						to = x.below(states)
					}
					row = append(row, to)
				}
				mark := -1
				if x.below(5) >= unmarked {
					mark = []int{0, 1, 2, 7, 1<<15 - 1}[x.below(5)]
				}
				d.Next, d.Mark = append(d.Next, row), append(d.Mark, mark)
			}
			if !yield(d) {
				return
			}
		}
	}
}

// chain returns an automaton of so many states, each of which leads to the next one by each byte but b. The one behind one byte has the mark 0, the last one 1.
func chain(states int) api.DFA {
	d := api.DFA{Class: classes("b"), Next: make(rows, states), Mark: slices.Repeat([]int{-1}, states)}
	for state := range states {
		d.Next[state] = []int{state + 1, -1}
	}
	d.Next[states-1][0] = -1
	d.Mark[1], d.Mark[states-1] = 0, 1
	return d
}

// state returns the state to which a text leads from 0, or -1.
func state(d api.DFA, s string) int {
	at := 0
	for _, b := range []byte(s) {
		if at = d.Next[at][d.Class[b]]; at < 0 {
			return -1
		}
	}
	return at
}

// markOf returns the mark of a text, or -1.
func markOf(d api.DFA, s string) int {
	if at := state(d, s); at >= 0 {
		return d.Mark[at]
	}
	return -1
}

// longest tries each prefix of the rest of a text.
func longest(d api.DFA, s string, at int) (mark, length int) {
	if at < 0 || at > len(s) {
		return -1, 0
	}
	for n := len(s) - at; n > 0; n-- {
		if mark := markOf(d, s[at:at+n]); mark >= 0 {
			return mark, n
		}
	}
	return -1, 0
}

// sure tries each prefix of the rest of a text.
func sure(d api.DFA, s string, at int) int {
	if at >= 0 && at < len(s) {
		for end := at + 1; end <= len(s); end++ {
			if state(d, s[at:end]) < 0 {
				return end
			}
		}
	}
	return len(s)
}

// An end is where the longest token from a state ends, and its mark; at -1, there is none.
type end struct{ at, mark int }

// split splits a text. It goes through the text from its end, and tells of each index and each state the longest token from there.
func split(d api.DFA, s string) ([]api.Token, int, api.Errno) {
	if len(s) > 65536 {
		return nil, 0, 6
	}
	starts := make([]end, len(s)+1) // of the state 0
	behind := slices.Repeat([]end{{-1, -1}}, len(d.Next))
	for at := len(s) - 1; at >= 0; at-- {
		here := make([]end, len(d.Next))
		for from := range here {
			to := d.Next[from][d.Class[s[at]]]
			switch {
			case to < 0:
				here[from] = end{-1, -1}
			case behind[to].at < 0 && d.Mark[to] >= 0:
				here[from] = end{at + 1, d.Mark[to]}
			default:
				here[from] = behind[to]
			}
		}
		starts[at], behind = here[0], here
	}
	var l []api.Token
	at := 0
	for at < len(s) {
		token := starts[at]
		if token.at < 0 {
			return l, at, 7
		}
		l = append(l, api.Token{Rule: token.mark, Text: s[at:token.at], At: at})
		at = token.at
	}
	return l, at, 0
}

// checkLongest holds Longest, Alone and Sure against the models.
func checkLongest(t *testing.T, d api.DFA, s string, at int) {
	t.Helper()
	wantMark, wantLength := longest(d, s, at)
	if mark, length := munch.Longest(d, s, at); mark != wantMark || length != wantLength {
		t.Fatalf("Longest of %.80q at %d: %d, %d, want %d, %d: %s", s, at, mark, length, wantMark, wantLength, told(d))
	}
	if got, want := munch.Sure(d, s, at), sure(d, s, at); got != want {
		t.Fatalf("Sure of %.80q at %d: %d, want %d: %s", s, at, got, want, told(d))
	}
	want := -1
	if s != "" {
		want = markOf(d, s)
	}
	if got := munch.Alone(d, s); got != want {
		t.Fatalf("Alone of %.80q: %d, want %d: %s", s, got, want, told(d))
	}
}

// checkAll holds All against the model, and Text against the text that was split. It returns the tokens.
func checkAll(t *testing.T, d api.DFA, s string) []api.Token {
	t.Helper()
	want, wantAt, wantErr := split(d, s)
	l, at, err := munch.All(d, s)
	if !slices.Equal(l, want) || at != wantAt || err != wantErr {
		t.Fatalf("All of %d bytes, %.80q: %s, %d, error %d, want %s, %d, error %d: %s", len(s), s, listed(l), at, err, listed(want), wantAt, wantErr, told(d))
	}
	if got := munch.Text(l); got != s[:at] {
		t.Fatalf("Text of the tokens of %.80q up to %d: %.80q", s, at, got)
	}
	return l
}
