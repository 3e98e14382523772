package rules_test

import (
	"fmt"
	"math"
	"regexp"
	"slices"
	"strings"
	"testing"

	"bosket/api"
	"bosket/byteset"
	"bosket/mini"
	"bosket/nfa"
	"bosket/rex"
	"bosket/rules"
	"bosket/subset"
)

type rows = [][]int

// told returns an automaton for messages.
func told(d api.DFA) string {
	counts := map[uint8]int{}
	for _, class := range d.Class {
		counts[class]++
	}
	return fmt.Sprintf("%d states, bytes by classes %v, %v, marks %v", len(d.Next), counts, d.Next[:min(len(d.Next), 20)], d.Mark[:min(len(d.Mark), 20)])
}

// equal holds two automata against each other, without the help of the package.
func equal(a, b api.DFA) bool {
	return a.Class == b.Class && slices.EqualFunc(a.Next, b.Next, slices.Equal) && slices.Equal(a.Mark, b.Mark)
}

// zero tells whether an automaton is what stands beside an error.
func zero(d api.DFA) bool { return d.Class == [256]uint8{} && len(d.Next) == 0 && len(d.Mark) == 0 }

// clone returns an automaton that shares nothing with the one that was given.
func clone(d api.DFA) api.DFA {
	next := d.Next
	d.Next, d.Mark = nil, slices.Clone(d.Mark)
	for _, row := range next {
		d.Next = append(d.Next, slices.Clone(row))
	}
	return d
}

// classes returns the classes of sets of bytes.
func classes(sets ...string) [256]uint8 {
	var l []api.Set
	for _, s := range sets {
		l = append(l, byteset.Of([]byte(s)...))
	}
	return byteset.Classes(l...)
}

// nothing is the minimal automaton of no string.
func nothing() api.DFA { return api.DFA{Next: rows{{-1}}, Mark: []int{-1}} }

// texts returns all texts of the letters, up to a length, the shortest first.
func texts(letters string, length int) []string {
	all := []string{""}
	for i := 0; len(all[i]) < length; i++ {
		for _, c := range []byte(letters) {
			all = append(all, all[i]+string([]byte{c}))
		}
	}
	return all
}

// odd returns numbers that are no kind, and beyond all limits.
func odd() []int {
	return []int{-1, -2, 3, 4, 7, 255, 256, 1 << 15, 1 << 31, 1 << 32, 1<<32 + 1, -1 << 31, -1 << 32, math.MinInt, math.MinInt + 1, math.MaxInt, math.MaxInt - 1}
}

// A source tells numbers without a plain rule, always the same ones.
type source uint64

func (x *source) below(n int) int {
	*x = *x*6364136223846793005 + 1442695040888963407
	return int(uint64(*x)>>33) % n
}

// expression returns the text of an expression over a, b and c. It means the same for the library's package regexp.
func expression(x *source, depth int) string {
	if depth == 0 || x.below(6) == 0 {
		return []string{"a", "b", "c", "[ab]", "[^a]", "[b-c]", ".", "ab"}[x.below(8)]
	}
	one := expression(x, depth-1)
	switch x.below(7) {
	case 0:
		return "(" + one + ")*"
	case 1:
		return "(" + one + ")+"
	case 2:
		return "(" + one + ")?"
	case 3, 4:
		return "(" + one + "|" + expression(x, depth-1) + ")"
	}
	return one + expression(x, depth-1)
}

// solid returns the text of an expression without the empty string.
func solid(x *source, depth int) string {
	for {
		if s := expression(x, depth); !matcher(s).MatchString("") {
			return s
		}
	}
}

// matcher tells which texts of ASCII are strings of an expression.
func matcher(s string) *regexp.Regexp { return regexp.MustCompile(`(?s)\A(?:` + s + `)\z`) }

// named returns rules with some names and kinds.
func named(regexes ...string) []api.Rule {
	var l []api.Rule
	for i, s := range regexes {
		l = append(l, api.Rule{Name: fmt.Sprintf("R%d", i), Kind: i % 3, Regex: s})
	}
	return l
}

// lists returns lists of up to 6 valid rules of the given depth.
func lists(seed source, count, depth int) [][]api.Rule {
	var l [][]api.Rule
	for range count {
		var all []string
		for range seed.below(7) {
			all = append(all, solid(&seed, depth))
		}
		l = append(l, named(all...))
	}
	return l
}

// regexes returns the expressions of rules, for messages.
func regexes(l []api.Rule) string {
	var all []string
	for _, rule := range l {
		all = append(all, rule.Regex)
	}
	return fmt.Sprintf("%.300q", all)
}

// automaton returns the nondeterministic automaton of an expression.
func automaton(t *testing.T, s string) api.NFA {
	t.Helper()
	r, err := rex.Parse(s)
	if err != api.OK {
		t.Fatalf("%s: error %d", s, err)
	}
	n, err := nfa.Of(r)
	if err != api.OK {
		t.Fatalf("%s: error %d", s, err)
	}
	return n
}

// single returns a deterministic automaton of an expression.
func single(t *testing.T, s string) api.DFA {
	t.Helper()
	d, err := subset.One(automaton(t, s))
	if err != api.OK {
		t.Fatalf("%s: error %d", s, err)
	}
	return d
}

// one returns One of an expression, which is to be without an error.
func one(t *testing.T, s string) api.DFA {
	t.Helper()
	d, err := rules.One(s)
	if err != api.OK {
		t.Fatalf("%s: error %d", s, err)
	}
	return d
}

// machine returns Machine of rules, which is to be without an error.
func machine(t *testing.T, l []api.Rule) api.DFA {
	t.Helper()
	d, err := rules.Machine(l)
	if err != api.OK {
		t.Fatalf("%s: error %d", regexes(l), err)
	}
	return d
}

// smallest returns the minimal automaton.
func smallest(t *testing.T, d api.DFA) api.DFA {
	t.Helper()
	least, err := mini.Of(d)
	if err != api.OK {
		t.Fatalf("error %d: %s", err, told(d))
	}
	return least
}

// entry returns where a byte leads from a state, or -1.
func entry(d api.DFA, state int, b byte) int {
	if state < 0 {
		return -1
	}
	return d.Next[state][d.Class[b]]
}

// marked reports whether a state has a mark; nowhere has none.
func marked(d api.DFA, state int) bool { return state >= 0 && d.Mark[state] >= 0 }

// markOf returns the mark of a text, or -1.
func markOf(d api.DFA, s string) int {
	state := 0
	for _, b := range []byte(s) {
		state = entry(d, state, b)
	}
	if state < 0 {
		return -1
	}
	return d.Mark[state]
}

// side returns an automaton whose states are rows of the states, or nowhere, of each of several ones, and in which the mark of a text is the number of the first one that has it. Every byte is a class of its own.
func side(all []api.DFA) api.DFA {
	var made api.DFA
	for b := range 256 {
		made.Class[b] = uint8(b)
	}
	met := [][]int{make([]int, len(all))}
	numbers := map[string]int{fmt.Sprint(met[0]): 0}
	for i := 0; i < len(met); i++ {
		mark := -1
		for k, d := range slices.Backward(all) {
			if marked(d, met[i][k]) {
				mark = k
			}
		}
		var row []int
		for b := range 256 {
			to := make([]int, len(all))
			for k, d := range all {
				to[k] = entry(d, met[i][k], byte(b))
			}
			number, known := numbers[fmt.Sprint(to)]
			if !known {
				number = len(met)
				numbers[fmt.Sprint(to)] = number
				met = append(met, to)
			}
			row = append(row, number)
		}
		made.Next, made.Mark = append(made.Next, row), append(made.Mark, mark)
	}
	return made
}

// window returns an expression of the strings of a and b in which there is an a ahead of so many others, behind a text. Its automaton has at least 2 to the power of one more states.
func window(before string, behind int) string {
	return before + "[ab]*a" + strings.Repeat("[ab]", behind)
}

// A fault is a rule that is invalid behind one of the name A, and what is wrong with it.
type fault struct {
	what string
	rule api.Rule
	err  api.Errno
}

// faults returns rules with one fault each, for lists in which an earlier rule has the name A.
func faults() []fault {
	var l []fault
	for _, name := range []string{"", "9", "9a", " ", "a b", "a ", " a", "a-b", "a.b", "\x00", "a\x00", "\u00e9", "a\u00e9", "\n", "A\n", strings.Repeat("n", 41), strings.Repeat("n", 1000)} {
		l = append(l, fault{fmt.Sprintf("the name %.50q", name), api.Rule{Name: name, Regex: "x"}, api.ErrName})
	}
	for kind := range 3 {
		l = append(l, fault{fmt.Sprintf("the name A, and the kind %d", kind), api.Rule{Name: "A", Kind: kind, Regex: "x"}, api.ErrTwice})
	}
	for _, kind := range odd() {
		l = append(l, fault{fmt.Sprintf("the kind %d", kind), api.Rule{Name: "B", Kind: kind, Regex: "x"}, api.ErrArg})
	}
	add := func(err api.Errno, texts []string) {
		for i, s := range texts {
			l = append(l, fault{fmt.Sprintf("the expression %.50q", s), api.Rule{Name: "B", Kind: i % 3, Regex: s}, err})
		}
	}
	add(api.ErrRegex, broken())
	add(api.ErrBig, tooBig())
	add(api.ErrEmptied, emptied())
	return l
}

// broken returns texts of no expression.
func broken() []string {
	return []string{"", "(", ")", "a)", "(a", "()", "|", "a|", "|a", "a||b", "*", "+a", "?", "[", "]", "[]", "[a", "[b-a]", `[^\x00-\xff]`, `"`, "a/b", `\`, `\q`, `\x0`, `\xFF`, strings.Repeat("(", 100) + "a" + strings.Repeat(")", 100), strings.Repeat(")", 1600)}
}

// tooBig returns texts of expressions that are too long, have too many pieces, or too many states.
func tooBig() []string {
	return []string{strings.Repeat(" ", 1601), strings.Repeat("(", 1601), strings.Repeat("a", 201), strings.Repeat("~", 201), "a" + strings.Repeat("*", 400), window("", 10), window("x", 10), window("", 30)}
}

// emptied returns texts of expressions that have the empty string.
func emptied() []string {
	return []string{"~", "a*", "a?", "(a*)+", "a|~", "~|a", "a|b?", "a*b*", "a?b?c?", "(~|a)(b|~)", "~~", ".*", "(a|~)+", "(ab)*", "((((a?))))", window("(", 9) + ")?", "a" + strings.Repeat("*", 399)}
}
