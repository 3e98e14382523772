package nfa_test

import (
	"fmt"
	"math"
	"slices"
	"strings"
	"testing"

	"bosket/api"
	"bosket/byteset"
	"bosket/nfa"
)

// wrong returns automata with one thing that is no state.
func wrong() []api.NFA {
	l := []api.NFA{{}, {States: -1}, {States: math.MinInt}, {States: -1, First: -2, Last: -2}, {States: 0, First: -1, Last: -1}, {States: -3, First: -5, Last: -5, Edges: []api.Edge{free(-5, -5)}}}
	for _, state := range []int{-1, 3, 4, math.MinInt, math.MaxInt} {
		for _, edges := range [][]api.Edge{nil, {on(0, 1, "a"), free(1, 2)}} {
			l = append(l, api.NFA{States: 3, First: state, Last: 1, Edges: edges}, api.NFA{States: 3, First: 1, Last: state, Edges: edges})
		}
		for _, e := range []api.Edge{free(state, 1), free(1, state), on(state, 1, "a"), on(1, state, "a"), on(1, state, ""), on(state, state, "a")} {
			good := on(0, 1, "a")
			l = append(l, automaton(3, 2, e), automaton(3, 0, e), automaton(3, 1, e, good, good), automaton(3, 1, good, e, good), automaton(3, 1, good, good, e))
		}
	}
	return l
}

// P6.1: Right.
func TestRight(t *testing.T) {
	for _, n := range wrong() {
		if nfa.Right(n) {
			t.Errorf("Right(%s)", told(n))
		}
	}
	for _, n := range []api.NFA{
		{States: 1}, {States: 3, First: 2}, {States: 3, Last: 2}, {States: 3, First: 2, Last: 2}, {States: math.MaxInt, First: math.MaxInt - 1},
		automaton(1, 0, free(0, 0), on(0, 0, "a"), on(0, 0, "")), automaton(3, 1, free(2, 2), on(0, 2, "a"), on(2, 0, "")), automaton(3, 0, free(0, 2), free(2, 0)),
	} {
		if !nfa.Right(n) {
			t.Errorf("not Right(%s)", told(n))
		}
	}
}

// same checks a list of one entry for each state.
func same(t *testing.T, call string, n api.NFA, got, want []bool) {
	t.Helper()
	if !slices.Equal(got, want) {
		t.Fatalf("%s of %s: %v, want %v", call, told(n), got, want)
	}
}

// P6.2: Close.
func TestClose(t *testing.T) {
	row := automaton(4, 3, free(0, 1), free(1, 2), free(2, 3))
	circle := automaton(4, 3, free(0, 1), free(1, 2), free(2, 0), free(2, 2))
	mixed := automaton(5, 4, free(0, 1), on(1, 2, "a"), free(2, 3), on(0, 4, ""), on(3, 4, "a"))
	marked := automaton(3, 2, api.Edge{From: 0, To: 1, Free: true, Set: byteset.Of('a')}, on(1, 2, "a"))
	fork := automaton(6, 5, free(0, 2), free(0, 4), free(2, 1), free(4, 1), free(1, 3))
	for _, c := range []struct {
		n    api.NFA
		in   []bool
		want string // 1 for each state that is reached
	}{
		{row, only(0), "1111"}, {row, only(1), "0111"}, {row, only(3), "0001"}, {row, only(0, 2), "1111"}, {row, only(1, 3), "0111"},
		{row, nil, "0000"}, {row, []bool{}, "0000"}, {row, make([]bool, 4), "0000"}, {row, []bool{false, true}, "0111"}, {row, []bool{true}, "1111"},
		{row, only(4), "0000"}, {row, only(2, 7), "0011"}, {row, slices.Repeat([]bool{true}, 9), "1111"}, {row, make([]bool, 9), "0000"},
		{circle, only(0), "1110"}, {circle, only(1), "1110"}, {circle, only(2), "1110"}, {circle, only(3), "0001"}, {circle, only(1, 3), "1111"},
		{mixed, only(0), "11000"}, {mixed, only(1), "01000"}, {mixed, only(2), "00110"}, {mixed, only(0, 2), "11110"}, {mixed, only(4), "00001"},
		{marked, only(0), "110"}, {marked, only(1), "010"},
		{fork, only(0), "111110"}, {fork, only(4), "010110"}, {fork, only(1, 5), "010101"},
		{api.NFA{States: 1}, nil, "0"}, {api.NFA{States: 1}, []bool{true}, "1"}, {api.NFA{States: 1}, []bool{false, true}, "0"}, {api.NFA{States: 3}, only(1), "010"},
		{automaton(2, 0, free(1, 1), free(0, 0)), only(1), "01"},
	} {
		var want []bool
		for _, digit := range c.want {
			want = append(want, digit == '1')
		}
		same(t, fmt.Sprintf("Close %v", c.in), c.n, nfa.Close(c.n, c.in), want)
	}
}

// P6.2: Move.
func TestMove(t *testing.T) {
	row := automaton(4, 3, on(0, 1, "a"), on(1, 2, "a"), on(2, 3, "b"))
	several := automaton(4, 3, on(0, 1, "ab"), on(0, 2, "a"), on(0, 3, "b"), on(0, 0, "bc"), on(1, 2, "c"))
	marked := automaton(3, 2, api.Edge{From: 0, To: 1, Free: true, Set: byteset.Of('a')}, free(1, 2), on(0, 2, ""))
	behind := automaton(4, 3, free(0, 1), on(1, 2, "a"), free(2, 3))
	for _, c := range []struct {
		n    api.NFA
		in   []bool
		b    byte
		want string
	}{
		{row, only(0), 'a', "0100"}, {row, only(0, 1), 'a', "0110"}, {row, only(0, 1, 2), 'b', "0001"}, {row, only(3), 'a', "0000"}, {row, only(0), 'b', "0000"}, {row, only(0), 'A', "0000"},
		{row, nil, 'a', "0000"}, {row, []bool{}, 'a', "0000"}, {row, []bool{true}, 'a', "0100"}, {row, []bool{false, true}, 'a', "0010"}, {row, make([]bool, 4), 'a', "0000"},
		{row, only(4), 'a', "0000"}, {row, only(1, 9), 'a', "0010"}, {row, slices.Repeat([]bool{true}, 9), 'b', "0001"},
		{several, only(0), 'a', "0110"}, {several, only(0), 'b', "1101"}, {several, only(0), 'c', "1000"}, {several, only(0, 1), 'c', "1010"}, {several, only(2, 3), 'a', "0000"},
		{marked, only(0), 'a', "000"}, {marked, only(0, 1, 2), 0, "000"},
		{behind, only(0), 'a', "0000"}, {behind, only(1), 'a', "0010"},
		{api.NFA{States: 1}, only(0), 'a', "0"}, {automaton(1, 0, on(0, 0, "a")), only(0), 'a', "1"},
		{automaton(2, 1, on(0, 1, "\x00\xff")), only(0), 0, "01"}, {automaton(2, 1, on(0, 1, "\x00\xff")), only(0), 255, "01"}, {automaton(2, 1, on(0, 1, "\x00\xff")), only(0), 64, "00"},
	} {
		var want []bool
		for _, digit := range c.want {
			want = append(want, digit == '1')
		}
		same(t, fmt.Sprintf("Move %v %d", c.in, c.b), c.n, nfa.Move(c.n, c.in, c.b), want)
	}
}

// P6.2: Close and Move, of all small automata with lists of all lengths.
func TestCloseAndMoveOfManyAutomata(t *testing.T) {
	check := func(n api.NFA) {
		for _, in := range lists(n.States) {
			same(t, fmt.Sprintf("Close %v", in), n, nfa.Close(n, in), closed(n, in))
			for _, b := range []byte("abc\x00") {
				same(t, fmt.Sprintf("Move %v %d", in, b), n, nfa.Move(n, in, b), movedOn(n, in, b))
			}
		}
	}
	for _, edges := range edgeRows(2, 2) {
		check(automaton(2, 1, edges...))
	}
	for n := range bigger() {
		check(n)
	}
}

// P6.2: Move for every byte.
func TestMoveOfEveryByte(t *testing.T) {
	n := automaton(257, 0)
	for b := range 256 {
		n.Edges = append(n.Edges, api.Edge{From: 0, To: b + 1, Set: byteset.Of(byte(b))})
	}
	for b := range 256 {
		want := make([]bool, 257)
		want[b+1] = true
		same(t, fmt.Sprintf("Move %d", b), n, nfa.Move(n, only(0), byte(b)), want)
	}
}

// P6.2: Has.
func TestHas(t *testing.T) {
	l := func(s ...string) []string { return s }
	for _, c := range []struct {
		n           api.NFA
		has, hasNot []string
	}{
		{api.NFA{States: 1}, l(""), l("a", "\x00")},
		{api.NFA{States: 2, Last: 1}, nil, l("", "a")},
		{automaton(2, 1, on(0, 1, "a")), l("a"), l("", "b", "aa")},
		{automaton(2, 1, on(0, 1, "")), nil, l("", "a", "\x00")},
		{automaton(2, 1, free(0, 1)), l(""), l("a")},
		{automaton(2, 1, free(1, 0)), nil, l("", "a")},
		{automaton(2, 1, api.Edge{From: 0, To: 1, Free: true, Set: byteset.Of('a')}), l(""), l("a")},
		{automaton(1, 0, on(0, 0, "ab")), l("", "a", "ab", "bba"), l("c", "abc", "cab")},
		{automaton(3, 2, free(0, 1), free(1, 0), on(1, 2, "a"), free(2, 0)), l("a", "aa", "aaa"), l("", "b", "ab")},
		{automaton(3, 0, free(0, 1), free(1, 2), free(2, 0), free(1, 1)), l(""), l("a")},
		{automaton(4, 3, on(0, 1, "a"), on(0, 2, "a"), on(1, 3, "b"), on(2, 3, "c")), l("ab", "ac"), l("", "a", "abc", "aa", "b")},
		{automaton(3, 2, on(0, 0, "ab"), on(0, 1, "a"), on(1, 2, "b")), l("ab", "aab", "abab"), l("", "ba", "a", "abb")},
		{automaton(4, 3, free(0, 1), on(1, 2, "a"), free(2, 3), on(3, 3, "b")), l("a", "ab", "abb"), l("", "b", "aa")},
		{automaton(2, 0, on(0, 1, "a"), on(1, 0, "b")), l("", "ab", "abab"), l("a", "ba", "aba")},
		{api.NFA{States: 3, First: 2, Last: 1, Edges: []api.Edge{on(2, 0, "a"), on(0, 1, "b")}}, l("ab"), l("", "a", "b", "ba")},
		{automaton(2, 1, on(0, 1, "\x00\x7f\x80\xff"), on(1, 1, "\xc3\xa9")), l("\x00", "\x7f\xc3", "\x80", "\xffé"), l("", "\x01", "é", "\xff\xff", "@")},
	} {
		accepts(t, told(c.n), c.n, c.has, c.hasNot)
	}
}

// P6.2: where Right does not hold, no text is accepted.
func TestHasOfWrongOnes(t *testing.T) {
	for _, n := range wrong() {
		accepts(t, told(n), n, nil, []string{"", "a", "aa", "b", "\x00"})
	}
}

// P6.2: Has, of all small automata and of many bigger ones, with all short texts.
func TestHasOfManyAutomata(t *testing.T) {
	check := func(n api.NFA, all []string) {
		for _, s := range all {
			if got := nfa.Has(n, s); got != leads(n, s, n.Last) {
				t.Fatalf("Has(%s, %q): %v", told(n), s, got)
			}
		}
	}
	few, many := texts("ab", 2), texts("abc", 4)
	for n := range small() {
		check(n, few)
	}
	for n := range bigger() {
		check(n, many)
	}
}

// P6.2: what Has accepts is what Close and Move lead to.
func TestHasByCloseAndMove(t *testing.T) {
	for n := range bigger() {
		for _, s := range []string{"", "a", "cab", "abcabc", "bbbbaaaacccc"} {
			in := nfa.Close(n, only(n.First))
			for _, b := range []byte(s) {
				in = nfa.Close(n, nfa.Move(n, in, b))
			}
			if got := nfa.Has(n, s); got != in[n.Last] {
				t.Errorf("Has(%s, %q): %v", told(n), s, got)
			}
		}
	}
}

// P6.2: how many states there are besides those of the edges does not matter.
func TestHasOfVeryManyStates(t *testing.T) {
	const last = math.MaxInt - 1
	n := automaton(math.MaxInt, last, on(0, last-1, "a"), free(last-1, last), on(last, 0, "b"))
	accepts(t, told(n), n, []string{"a", "aba"}, []string{"", "ab", "b", "aa"})
	accepts(t, "one of no edges", api.NFA{States: math.MaxInt, First: last, Last: last}, []string{""}, []string{"a"})
}

// P6.2: Sets.
func TestSets(t *testing.T) {
	a, ab, x := byteset.Of('a'), byteset.Of('a', 'b'), byteset.Of(0, 255)
	noise := api.Edge{Free: true, Set: byteset.Of('z')}
	for _, c := range []struct {
		edges []api.Edge
		want  []api.Set
	}{
		{nil, nil},
		{[]api.Edge{free(0, 1), noise}, nil},
		{[]api.Edge{on(0, 1, "a")}, []api.Set{a}},
		{[]api.Edge{on(1, 0, "ab"), on(0, 1, "a"), on(1, 1, "\x00\xff")}, []api.Set{ab, a, x}},
		{[]api.Edge{noise, on(0, 1, "\x00\xff"), free(0, 1), on(0, 1, "a"), noise, on(0, 0, "ab"), free(1, 1)}, []api.Set{x, a, ab}},
		{[]api.Edge{on(0, 1, "a"), on(0, 1, "ab"), on(0, 1, "a"), on(1, 1, "a")}, []api.Set{a, ab, a, a}},
		{[]api.Edge{on(0, 1, ""), on(0, 1, "a"), on(0, 1, "")}, []api.Set{{}, a, {}}},
		{[]api.Edge{{From: 0, To: 1, Set: byteset.Full()}}, []api.Set{byteset.Full()}},
	} {
		n := automaton(2, 1, c.edges...)
		if got := nfa.Sets(n); !slices.Equal(got, c.want) {
			t.Errorf("Sets(%s): %x, want %x", told(n), got, c.want)
		}
	}
}

// P1, P6.2: long rows of Free edges, long texts, and many states at once.
func TestBigAutomata(t *testing.T) {
	long := chain(200_000)
	if got := nfa.Close(long, only(1)); got[0] || slices.Contains(got[1:], false) || len(got) != long.States {
		t.Error("Close of a long chain")
	}
	accepts(t, "a long chain", long, []string{""}, []string{"a"})
	text := strings.Repeat("ab", api.MaxText/2-46) + "a" + strings.Repeat("b", 90)
	r := parsed(t, "(a|b)*a"+strings.Repeat("(a|b)", 90))
	accepts(t, brief(r), of(t, r), []string{text}, []string{text + "b"})
	for _, r := range big(t)[:2] {
		accepts(t, brief(r), of(t, r), []string{strings.Repeat("a", api.MaxText)}, []string{strings.Repeat("a", api.MaxText) + "b"})
	}
}
