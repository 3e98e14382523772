package subset_test

import (
	"math"
	"slices"
	"strings"
	"testing"

	"bosket/api"
	"bosket/byteset"
	"bosket/nfa"
	"bosket/rex"
	"bosket/subset"
)

// made returns what Of returns, which must be no error.
func made(t *testing.T, n api.NFA, marks []int) api.DFA {
	t.Helper()
	d, e := subset.Of(n, marks)
	if e != api.OK {
		t.Fatalf("Of(%s): %d", told(n), e)
	}
	return d
}

// one returns what One returns, which must be no error.
func one(t *testing.T, n api.NFA) api.DFA {
	t.Helper()
	d, e := subset.One(n)
	if e != api.OK {
		t.Fatalf("One(%s): %d", told(n), e)
	}
	return d
}

// classes returns the classes of sets of bytes.
func classes(sets ...string) [256]uint8 {
	var l []api.Set
	for _, s := range sets {
		l = append(l, byteset.Of([]byte(s)...))
	}
	return byteset.Classes(l...)
}

// is checks a result.
func is(t *testing.T, n api.NFA, marks []int, got, want api.DFA) {
	t.Helper()
	if !equal(got, want) {
		t.Fatalf("Of(%s, %v): %s, want %s", told(n), marks, result(got), result(want))
	}
}

// The example of the chapter.
func TestTheExample(t *testing.T) {
	d := one(t, of(t, "a"))
	if len(d.Next) != 2 || !slices.Equal(d.Mark, []int{-1, 0}) {
		t.Errorf("One of the automaton of a: %s", result(d))
	}
	is(t, of(t, "a"), nil, d, api.DFA{Class: classes("a"), Next: [][]int{{-1, 1}, {-1, -1}}, Mark: []int{-1, 0}})
}

// P7.1: automata for which Right does not hold, whatever the marks are.
func TestWhereRightDoesNotHold(t *testing.T) {
	for _, n := range wrong() {
		for _, marks := range [][]int{nil, {}, {0}, {-1, 2, 3, 4, 5}} {
			if d, e := subset.Of(n, marks); e != api.ErrArg || !zero(d) {
				t.Errorf("Of(%s): %d, %s", told(n), e, result(d))
			}
		}
		if d, e := subset.One(n); e != api.ErrArg || !zero(d) {
			t.Errorf("One(%s): %d, %s", told(n), e, result(d))
		}
	}
}

// P7.1: automata of expressions, by One.
func TestOneOfExpressions(t *testing.T) {
	type rows = [][]int
	for _, c := range []struct {
		r     string
		class [256]uint8
		next  rows
		mark  []int
	}{
		{"~", classes(), rows{{-1}}, []int{0}},
		{".", classes(), rows{{1}, {-1}}, []int{-1, 0}},
		{".*", classes(), rows{{1}, {1}}, []int{0, 0}},
		{"ab", classes("a", "b"), rows{{-1, 1, -1}, {-1, -1, 2}, {-1, -1, -1}}, []int{-1, -1, 0}},
		{"ba", classes("a", "b"), rows{{-1, -1, 1}, {-1, 2, -1}, {-1, -1, -1}}, []int{-1, -1, 0}},
		{"a*", classes("a"), rows{{-1, 1}, {-1, 1}}, []int{0, 0}},
		{"a+", classes("a"), rows{{-1, 1}, {-1, 1}}, []int{-1, 0}},
		{"a?", classes("a"), rows{{-1, 1}, {-1, -1}}, []int{0, 0}},
		{"a|b", classes("a", "b"), rows{{-1, 1, 2}, {-1, -1, -1}, {-1, -1, -1}}, []int{-1, 0, 0}},
		{"b|a", classes("a", "b"), rows{{-1, 1, 2}, {-1, -1, -1}, {-1, -1, -1}}, []int{-1, 0, 0}},
		{"[ab]", classes("ab"), rows{{-1, 1}, {-1, -1}}, []int{-1, 0}},
		{"[^a]", classes("a"), rows{{1, -1}, {-1, -1}}, []int{-1, 0}},
		{"ab|ac", classes("a", "b", "c"), rows{{-1, 1, -1, -1}, {-1, -1, 2, 3}, {-1, -1, -1, -1}, {-1, -1, -1, -1}}, []int{-1, -1, 0, 0}},
		{"(a|b)*abb", classes("a", "b"), rows{{-1, 1, 2}, {-1, 1, 3}, {-1, 1, 2}, {-1, 1, 4}, {-1, 1, 2}}, []int{-1, -1, -1, -1, 0}},
		{"[a-c]|[c-e]", classes("abc", "cde"), rows{{-1, 1, 2, 3}, {-1, -1, -1, -1}, {-1, -1, -1, -1}, {-1, -1, -1, -1}}, []int{-1, 0, 0, 0}},
	} {
		n := of(t, c.r)
		want := api.DFA{Class: c.class, Next: c.next, Mark: c.mark}
		is(t, n, nil, one(t, n), want)
		is(t, n, nil, made(t, n, onlyLast(n)), want)
	}
}

// P7.1: automata that no expression has.
func TestOfPlainAutomata(t *testing.T) {
	type rows = [][]int
	for _, c := range []struct {
		n     api.NFA
		class [256]uint8
		next  rows
		mark  []int // with the numbers of the states as marks
	}{
		// The start is Close of First, whichever state that is, and the order of the edges does not count.
		{api.NFA{States: 3, First: 2, Edges: []api.Edge{on(1, 0, "a"), free(2, 1)}}, classes("a"), rows{{-1, 1}, {-1, -1}}, []int{1, 0}},
		{api.NFA{States: 3, First: 1, Edges: []api.Edge{on(0, 2, "a"), on(1, 0, "a")}}, classes("a"), rows{{-1, 1}, {-1, 2}, {-1, -1}}, []int{1, 0, 2}},
		// After a byte Free edges are followed too, several of them.
		{automaton(4, 0, on(0, 3, "a"), free(3, 2), free(2, 1), on(1, 0, "b")), classes("a", "b"), rows{{-1, 1, -1}, {-1, -1, 0}}, []int{0, 1}},
		// One byte leads to several states.
		{automaton(3, 0, on(0, 2, "a"), on(0, 1, "a"), on(1, 1, "b"), on(2, 2, "c")), classes("a", "b", "c"), rows{{-1, 1, -1, -1}, {-1, -1, 2, 3}, {-1, -1, 2, -1}, {-1, -1, -1, 3}}, []int{0, 1, 1, 2}},
		// Sets that differ in states from which nothing leads on are different states.
		{automaton(4, 0, on(0, 1, "a"), on(0, 2, "b"), on(0, 3, "c")), classes("a", "b", "c"), rows{{-1, 1, 2, 3}, {-1, -1, -1, -1}, {-1, -1, -1, -1}, {-1, -1, -1, -1}}, []int{0, 1, 2, 3}},
		{automaton(3, 0, on(0, 1, "a"), on(0, 1, "b"), on(0, 2, "b")), classes("a", "b"), rows{{-1, 1, 2}, {-1, -1, -1}, {-1, -1, -1}}, []int{0, 1, 1}},
		// Different states from which Free edges lead to each other have the same set.
		{automaton(3, 0, on(0, 1, "a"), on(0, 2, "b"), free(1, 2), free(2, 1)), classes("a", "b"), rows{{-1, 1, 1}, {-1, -1, -1}}, []int{0, 1}},
		{automaton(3, 0, on(0, 1, "a"), on(0, 2, "bc"), on(0, 1, "c"), free(1, 2)), classes("a", "b", "c"), rows{{-1, 1, 2, 1}, {-1, -1, -1, -1}, {-1, -1, -1, -1}}, []int{0, 1, 2}},
		// A set that is the start again.
		{automaton(2, 0, free(0, 1), on(1, 0, "a")), classes("a"), rows{{-1, 0}}, []int{0}},
		{automaton(2, 0, on(0, 0, "a"), on(0, 1, "b"), on(1, 0, "b")), classes("a", "b"), rows{{-1, 0, 1}, {-1, -1, 0}}, []int{0, 1}},
		// States are numbered state by state, and class by class.
		{automaton(6, 0, on(0, 5, "b"), on(0, 4, "a"), on(5, 1, "a"), on(4, 3, "b"), on(4, 2, "a"), on(1, 0, "b")), classes("a", "b"),
			rows{{-1, 1, 2}, {-1, 3, 4}, {-1, 5, -1}, {-1, -1, -1}, {-1, -1, -1}, {-1, -1, 0}}, []int{0, 4, 5, 2, 3, 1}},
		// The class of the other bytes is the first one, unless another one has the byte 0.
		{automaton(3, 0, on(0, 1, "\x00"), api.Edge{From: 0, To: 2, Set: byteset.Range(1, 255)}), classes("\x00"), rows{{1, 2}, {-1, -1}, {-1, -1}}, []int{0, 1, 2}},
		// What cannot be reached counts for the classes, and for nothing else; the Sets of Free edges do not count.
		{automaton(4, 0, on(2, 3, "b"), on(0, 1, "a"), on(3, 1, "a")), classes("a", "b"), rows{{-1, 1, -1}, {-1, -1, -1}}, []int{0, 1}},
		{automaton(2, 0, on(0, 1, "a"), api.Edge{From: 0, To: 0, Free: true, Set: byteset.Of('b')}), classes("a"), rows{{-1, 1}, {-1, -1}}, []int{0, 1}},
		{automaton(3, 0, on(0, 1, "abc"), on(0, 2, "bcd"), on(2, 2, "")), classes("a", "bc", "d"), rows{{-1, 1, 2, 3}, {-1, -1, -1, -1}, {-1, -1, -1, -1}, {-1, -1, -1, -1}}, []int{0, 1, 1, 2}},
	} {
		marks := make([]int, c.n.States)
		for state := range marks {
			marks[state] = state
		}
		is(t, c.n, marks, made(t, c.n, marks), api.DFA{Class: c.class, Next: c.next, Mark: c.mark})
	}
}

// P7.1: automata that read nothing: no edges, only Free ones, or only such for no byte.
func TestOfAutomataThatReadNothing(t *testing.T) {
	for _, c := range []struct {
		n    api.NFA
		mark int // by Of with the marks 5, 3, 4
		last int // by One
	}{
		{automaton(1, 0), 5, 0},
		{automaton(3, 2), 5, -1},
		{api.NFA{States: 3, First: 2, Last: 2}, 4, 0},
		{automaton(3, 1, on(0, 1, "")), 5, -1},
		{automaton(3, 1, free(0, 1)), 3, 0},
		{automaton(3, 2, free(1, 2)), 5, -1},
		{automaton(3, 2, free(2, 1), free(0, 2)), 3, 0},
		{automaton(3, 2, api.Edge{From: 0, To: 2, Free: true, Set: byteset.Full()}), 4, 0},
		{automaton(3, 1, on(0, 1, ""), on(0, 0, ""), free(0, 2)), 4, -1},
		{of(t, "~"), 3, 0},
		{of(t, "(~|~*)+"), 3, 0},
	} {
		marks := []int{5, 3, 4}
		want := api.DFA{Next: [][]int{{-1}}, Mark: []int{c.mark}}
		is(t, c.n, marks, made(t, c.n, marks), want)
		want.Mark[0] = c.last
		is(t, c.n, onlyLast(c.n), one(t, c.n), want)
	}
}

// P7.1: lists of marks of every length, with negative ones, and several marks in one set.
func TestMarks(t *testing.T) {
	// 0 is the start; a leads to 1, 2 and 3, of which b leaves 2 and 3, and c leaves 3.
	n := automaton(5, 4, on(0, 1, "a"), free(1, 2), on(0, 3, "a"), on(2, 2, "b"), on(3, 3, "bc"))
	for _, c := range []struct {
		marks []int
		want  []int // of the start, and after a, ab, ac
	}{
		{nil, []int{-1, -1, -1, -1}}, {[]int{}, []int{-1, -1, -1, -1}}, {[]int{7}, []int{7, -1, -1, -1}}, {[]int{0}, []int{0, -1, -1, -1}},
		{[]int{-1, 7}, []int{-1, 7, -1, -1}}, {[]int{6, 7, 8}, []int{6, 7, 8, -1}}, {[]int{6, 7, 8, 9}, []int{6, 7, 8, 9}},
		{[]int{6, 9, 8, 7}, []int{6, 7, 7, 7}}, {[]int{6, 8, 7, 9}, []int{6, 7, 7, 9}}, {[]int{6, 7, 7, 7, 0}, []int{6, 7, 7, 7}},
		{[]int{0, 0, 0, 0, 0}, []int{0, 0, 0, 0}}, {[]int{0, 1, 0, 1}, []int{0, 0, 0, 1}}, {[]int{5, 1, -1, 2, 3, 0, 0, 0, 0}, []int{5, 1, 2, 2}},
		{[]int{-1, -1, -1, -1, -1, 0, 0, 0}, []int{-1, -1, -1, -1}}, {[]int{-1, -1, -1, -1, 0}, []int{-1, -1, -1, -1}},
		{[]int{-2, -3, -4, -5, -6}, []int{-1, -1, -1, -1}}, {[]int{-9, -9, 3, -9}, []int{-1, 3, 3, -1}}, {[]int{-2, 3, -1, -7}, []int{-1, 3, -1, -1}},
		{[]int{math.MinInt, math.MaxInt, math.MinInt, math.MinInt}, []int{-1, math.MaxInt, -1, -1}},
		{[]int{math.MaxInt, math.MaxInt, math.MaxInt - 1, math.MaxInt}, []int{math.MaxInt, math.MaxInt - 1, math.MaxInt - 1, math.MaxInt}},
		{[]int{1 << 31, 1<<31 + 1, 1<<40 + 1, 1 << 40}, []int{1 << 31, 1<<31 + 1, 1 << 40, 1 << 40}},
	} {
		d := made(t, n, c.marks)
		for i, s := range []string{"", "a", "ab", "ac"} {
			if got := markAfter(d, s); got != c.want[i] {
				t.Errorf("marks %v: after %q the mark is %d, want %d", c.marks, s, got, c.want[i])
			}
		}
		if want, _ := model(n, c.marks); !equal(d, want) {
			t.Errorf("marks %v: %s, want %s", c.marks, result(d), result(want))
		}
	}
}

// P7.1: by One only Last has a mark, be it First or none that can be reached.
func TestOneMarksOnlyLast(t *testing.T) {
	n := automaton(3, 0, on(0, 1, "a"), free(1, 0), on(1, 2, "b"))
	for last, want := range [][]int{{0, 0, -1}, {-1, 0, -1}, {-1, -1, 0}} {
		n.Last = last
		if d := one(t, n); !slices.Equal(d.Mark, want) || !equal(d, made(t, n, onlyLast(n))) {
			t.Errorf("One with the Last %d: %s", last, result(d))
		}
	}
	n.States, n.Last = 9, 8
	if d := one(t, n); !slices.Equal(d.Mark, []int{-1, -1, -1}) {
		t.Errorf("One with a Last that is not reached: %s", result(d))
	}
}

// P7.1: Of does not ask for Last.
func TestOfDoesNotAskForLast(t *testing.T) {
	n := of(t, "(a|b)*abb")
	marks := []int{-1, 5, -1, 4, -1, 3, -1, 2, -1, 1}
	want := made(t, n, marks)
	for last := range n.States {
		n.Last = last
		is(t, n, marks, made(t, n, marks), want)
	}
}

// P7.1: Free edges in a circle: of one state, at the start, behind a byte, and several that touch.
func TestFreeEdgesInACircle(t *testing.T) {
	for _, n := range []api.NFA{
		automaton(1, 0, free(0, 0)),
		automaton(1, 0, free(0, 0), on(0, 0, "a"), free(0, 0)),
		automaton(3, 2, free(0, 1), free(1, 2), free(2, 0)),
		automaton(3, 1, free(0, 1), free(1, 2), free(2, 0), on(0, 1, "a"), on(2, 2, "b")),
		automaton(5, 4, on(0, 1, "a"), free(1, 2), free(2, 3), free(3, 1), on(3, 4, "b"), on(2, 0, "c")),
		automaton(6, 5, free(0, 1), free(1, 0), free(1, 2), free(2, 1), free(2, 2), on(2, 3, "ab"), free(3, 4), free(4, 3), on(4, 5, "b"), free(5, 5), free(5, 0)),
		of(t, "((a*)*)*"), of(t, "((a?)+b*)*"), of(t, "(~*)*"),
	} {
		for _, marks := range [][]int{nil, {4, 3, 2, 1, 0, 5}, {-1, -1, 9, 8}} {
			want, _ := model(n, marks)
			is(t, n, marks, made(t, n, marks), want)
		}
	}
	ring := automaton(3000, 0, on(0, 0, "a"))
	for state := range ring.States {
		ring.Edges = append(ring.Edges, free(state, (state+1)%ring.States))
	}
	is(t, ring, nil, made(t, ring, append(slices.Repeat([]int{-1}, 2999), 6)), api.DFA{Class: classes("a"), Next: [][]int{{-1, 0}}, Mark: []int{6}})
}

// P7.1: all small automata, with marks of all kinds.
func TestOfAllSmallAutomata(t *testing.T) {
	for n := range small() {
		for _, marks := range [][]int{nil, {1, 0, 0}, {-3, 2}} {
			want, _ := model(n, marks)
			is(t, n, marks, made(t, n, marks), want)
		}
		is(t, n, onlyLast(n), one(t, n), made(t, n, onlyLast(n)))
	}
}

// P7.1: many bigger automata.
func TestOfManyAutomata(t *testing.T) {
	most := 0
	for n, marks := range bigger() {
		want, e := model(n, marks)
		if e != api.OK {
			t.Fatal("an automaton that is too big")
		}
		is(t, n, marks, made(t, n, marks), want)
		is(t, n, onlyLast(n), one(t, n), made(t, n, onlyLast(n)))
		most = max(most, len(want.Next))
	}
	if most < 100 {
		t.Errorf("at most %d states", most)
	}
}

// P7.1: expressions of many forms, alone and side by side.
func TestOfExpressionsAndUnions(t *testing.T) {
	var l []api.NFA
	for _, s := range []string{
		"if", "[a-z]+", "[0-9]+(.[0-9]+)?", "((a*b)*c)*", "(a|b)*a(a|b)(a|b)(a|b)", "((a+b?)+c?)+", "(a?b?c?)*", ".*a.", "[^a]*a?", "ab+c|a*b|(a|b)*c", `'([^'\\]|\\.)*'`, "~", " +", "#[^\\n]*",
	} {
		n := of(t, s)
		l = append(l, n)
		want, _ := model(n, onlyLast(n))
		is(t, n, nil, one(t, n), want)
		u, lasts := nfa.Union(l...)
		marks := slices.Repeat([]int{-1}, u.States)
		for i, last := range lasts {
			marks[last] = i
		}
		want, _ = model(u, marks)
		is(t, u, marks, made(t, u, marks), want)
	}
}

// P7.1: each byte may have a class of its own.
func TestOfEveryByte(t *testing.T) {
	n := automaton(257, 0)
	want := api.DFA{Next: [][]int{nil}, Mark: []int{-1}}
	marks := []int{-1}
	for b := range 256 {
		n.Edges = append(n.Edges, api.Edge{From: 0, To: 256 - b, Set: byteset.Of(byte(b))})
		marks = append(marks, 256-b-1)
		want.Class[b] = uint8(b)
		want.Next[0] = append(want.Next[0], b+1)
		want.Next = append(want.Next, slices.Repeat([]int{-1}, 256))
		want.Mark = append(want.Mark, b)
	}
	is(t, n, marks, made(t, n, marks), want)
}

// count checks how many states a result has; 0 stands for ErrBig.
func count(t *testing.T, name string, n api.NFA, want int) {
	t.Helper()
	for _, call := range []func() (api.DFA, api.Errno){
		func() (api.DFA, api.Errno) { return subset.One(n) },
		func() (api.DFA, api.Errno) { return subset.Of(n, nil) },
		func() (api.DFA, api.Errno) { return subset.Of(n, []int{3, 2, 1}) },
	} {
		switch d, e := call(); {
		case want == 0 && (e != api.ErrBig || !zero(d)):
			t.Errorf("%s: %d, %d states, want ErrBig", name, e, len(d.Next))
		case want > 0 && (e != api.OK || len(d.Next) != want || len(d.Mark) != want):
			t.Errorf("%s: %d, %d states, want %d", name, e, len(d.Next), want)
		}
	}
}

// P7.1: MaxStates states of the result, and one more.
func TestMaxStates(t *testing.T) {
	count(t, "a row of 2000", row(2000, "a"), 2000)
	count(t, "a row of 2001", row(2001, "a"), 0)
	count(t, "a row of 5000", row(5000, "a"), 0)
	count(t, "a row of 1999", row(1999, "a"), 1999)

	with := func(n api.NFA, edges ...api.Edge) api.NFA {
		n.Edges = append(n.Edges, edges...)
		return n
	}
	count(t, "a row of 2000 that leads back", with(row(2000, "a"), on(1999, 0, "ab"), on(1999, 1999, "c")), 2000)
	more := row(2000, "a")
	more.States = 2001
	count(t, "one more for the last byte of the last state", with(more, on(1999, 2000, "\xff")), 0)
	count(t, "one more for the last byte of the first state", with(more, on(0, 2000, "\xff")), 0)
	count(t, "one more that is not reached", with(more, on(2000, 1999, "\xff")), 2000)
	count(t, "one more by a Free edge", with(more, free(1999, 2000)), 2000)
	count(t, "one more set, of states that are there", with(row(2000, "a"), on(1999, 1999, "b"), on(1999, 0, "b")), 0)

	merged := row(5000, "a") // a set may have more states than the result
	for state := range merged.States - 1 {
		merged.Edges = append(merged.Edges, free(state+1, state), free(state, state+1))
	}
	count(t, "5000 states that are in one set", merged, 1)
}

// P7.1: ErrBig for small automata too.
func TestSmallAutomataWithManySets(t *testing.T) {
	for _, c := range []struct{ n, want int }{{1, 4}, {5, 64}, {9, 1024}, {10, 0}, {11, 0}, {90, 0}} {
		n := automaton(c.n+2, c.n+1, on(0, 0, "ab"), on(0, 1, "a"))
		for state := 1; state <= c.n; state++ {
			n.Edges = append(n.Edges, on(state, state+1, "ab"))
		}
		count(t, "a set for each row of letters", n, c.want)
	}
	count(t, "(a|b)*a, and 9 letters", of(t, "(a|b)*a"+strings.Repeat("[ab]", 9)), 1024+1)
	count(t, "(a|b)*a, and 10 letters", of(t, "(a|b)*a"+strings.Repeat("[ab]", 10)), 0)
	count(t, "a letter of each 1000 and a row of 1000", func() api.NFA {
		n := row(1000, "a")
		for b := range 256 {
			n.Edges = append(n.Edges, api.Edge{From: 999, To: 1000 + b, Set: byteset.Of(byte(b))})
		}
		n.States = 1256
		return n
	}(), 1256)
}

// P7.1: numbers of states that are great, far apart, and at most few of them named.
func TestOfAutomataWithGreatNumbers(t *testing.T) {
	const most = math.MaxInt
	n := api.NFA{States: most, First: most - 1, Last: most - 2, Edges: []api.Edge{on(most-1, 1<<40, "a"), free(1<<40, 2), on(2, most-2, "b"), on(most-2, 2, "b")}}
	want := api.DFA{Class: classes("a", "b"), Next: [][]int{{-1, 1, -1}, {-1, -1, 2}, {-1, -1, 3}, {-1, -1, 2}}, Mark: []int{-1, -1, 0, -1}}
	is(t, n, nil, one(t, n), want)
	want.Mark = []int{-1, 3, -1, 3}
	is(t, n, nil, made(t, n, []int{0, 1, 3, 4}), want)
	is(t, n, nil, one(t, api.NFA{States: most, Last: most - 1}), api.DFA{Next: [][]int{{-1}}, Mark: []int{-1}})
	is(t, n, nil, one(t, api.NFA{States: most, First: most - 1, Last: most - 1}), api.DFA{Next: [][]int{{-1}}, Mark: []int{0}})
}

// P1, P7.1: many states at once, as many as the tokens of a grammar may have.
func TestBigUnions(t *testing.T) {
	letters := api.Regex{{Kind: api.One, Set: byteset.Of(0)}}
	for b := byte(1); b < 133; b++ {
		letters = append(letters, api.Piece{Kind: api.One, Set: byteset.Of(b)}, api.Piece{Kind: api.Alt})
	}
	n, e := nfa.Of(rex.Join(api.Star, letters))
	if e != api.OK {
		t.Fatal(e)
	}
	u, lasts := nfa.Union(slices.Repeat([]api.NFA{n}, api.MaxTokens)...)
	marks := slices.Repeat([]int{-1}, u.States)
	for i, last := range lasts {
		marks[last] = len(lasts) - i
	}
	d := made(t, u, marks)
	if len(d.Next) != 134 || slices.ContainsFunc(d.Mark, func(mark int) bool { return mark != 1 }) {
		t.Errorf("60 times the letters: %s", result(d))
	}
	for from, next := range d.Next {
		for class, to := range next {
			want := class + 1
			if class == 133 {
				want = -1
			}
			if to != want {
				t.Fatalf("the class %d leads from %d to %d, want %d", class, from, to, want)
			}
		}
	}
}
