package mini_test

import (
	"slices"
	"testing"

	"bosket/api"
	"bosket/byteset"
	"bosket/dfa"
	"bosket/mini"
	"bosket/nfa"
	"bosket/rex"
	"bosket/subset"
)

// least1 is the automaton of no string: one state, one class, which leads nowhere.
func least1() api.DFA { return api.DFA{Next: rows{{-1}}, Mark: []int{-1}} }

// of returns what Of returns, which is to be no error.
func of(t *testing.T, d api.DFA) api.DFA {
	t.Helper()
	got, err := mini.Of(d)
	if err != api.OK {
		t.Fatalf("error %d: %s", err, told(d))
	}
	return got
}

// The example of the chapter: one state without a mark that leads to itself.
func TestTheExample(t *testing.T) {
	for _, d := range []api.DFA{{Next: rows{{0}}, Mark: []int{-1}}, plain(rows{{0, 0, 0}}, -1), plain(rows{{0, -1, 0}}, -1)} {
		if got := of(t, d); !equal(got, least1()) {
			t.Errorf("%s of %s", told(got), told(d))
		}
	}
}

// P9.2, P9.3: where no string has a mark, the result is the automaton of the example.
func TestOfWithoutMarks(t *testing.T) {
	for _, d := range []api.DFA{
		least1(),
		plain(rows{{-1, -1, -1}}, -1),
		plain(rows{{0, 1, -1}, {1, 0, 2}, {-1, 2, 2}}, -1, -1, -1),
		plain(rows{{0, -1, 0}, {0, 2, 0}, {1, 1, 1}}, -1, 4, 5), // no string leads to the marks
		plain(rows{{-1, 1, -1}, {1, 1, 0}, {0, 1, 3}, {-1, -1, -1}}, -1, -1, 0, 7),
	} {
		if got := of(t, d); !equal(got, least1()) {
			t.Errorf("%s of %s", told(got), told(d))
		}
	}
	for d := range small() {
		reached := []int{0}
		for i := 0; i < len(reached); i++ {
			for _, to := range d.Next[reached[i]] {
				if to >= 0 && !slices.Contains(reached, to) {
					reached = append(reached, to)
				}
			}
		}
		marked := slices.ContainsFunc(reached, func(state int) bool { return d.Mark[state] >= 0 })
		if got := of(t, d); equal(got, least1()) == marked {
			t.Fatalf("%s of %s", told(got), told(d))
		}
	}
}

// P9.2: plain automata.
func TestOf(t *testing.T) {
	for _, c := range []struct{ d, want api.DFA }{
		{plain(rows{{-1, -1, -1}}, 3), api.DFA{Next: rows{{-1}}, Mark: []int{3}}},
		{plain(rows{{0, 0, 0}}, 3), api.DFA{Next: rows{{0}}, Mark: []int{3}}},
		{plain(rows{{-1, 0, -1}}, 3), api.DFA{Class: classes("a"), Next: rows{{-1, 0}}, Mark: []int{3}}},
		{plain(rows{{-1, 0, 0}}, 3), api.DFA{Class: classes("ab"), Next: rows{{-1, 0}}, Mark: []int{3}}},
		{plain(rows{{0, -1, -1}}, 3), api.DFA{Class: classes("ab"), Next: rows{{0, -1}}, Mark: []int{3}}},
		{plain(rows{{-1, 1, 0}, {-1, 0, 1}}, 2, 2), api.DFA{Class: classes("ab"), Next: rows{{-1, 0}}, Mark: []int{2}}},
		{plain(rows{{-1, 1, 0}, {-1, 0, 1}}, 2, 3), plain(rows{{-1, 1, 0}, {-1, 0, 1}}, 2, 3)},
		{plain(rows{{-1, 2, 1}, {-1, -1, -1}, {-1, -1, -1}}, -1, 6, 7), plain(rows{{-1, 1, 2}, {-1, -1, -1}, {-1, -1, -1}}, -1, 7, 6)},
		{plain(rows{{-1, 2, 1}, {-1, -1, -1}, {-1, -1, -1}}, -1, 7, 7), api.DFA{Class: classes("ab"), Next: rows{{-1, 1}, {-1, -1}}, Mark: []int{-1, 7}}},
		{good(), good()},
	} {
		if got := of(t, c.d); !equal(got, c.want) {
			t.Errorf("%s, want %s, of %s", told(got), told(c.want), told(c.d))
		}
	}
}

// P9.2: ErrArg where Right does not hold.
func TestOfWhereRightDoesNotHold(t *testing.T) {
	for _, f := range faults() {
		if got, err := mini.Of(f.d); err != api.ErrArg || !equal(got, api.DFA{}) {
			t.Errorf("%s, error %d with %s", told(got), err, f.what)
		}
	}
}

// P9.2: states that are not reached from 0 are left out, whatever marks they have and wherever they lead.
func TestOfLeavesOutStatesThatAreNotReached(t *testing.T) {
	d := plain(rows{{-1, 3, -1}, {0, 1, 2}, {3, 3, 1}, {-1, -1, 3}, {-1, -1, -1}}, -1, 5, -1, 4, 9)
	want := plain(rows{{-1, 1, -1}, {-1, -1, 1}}, -1, 4)
	if got := of(t, d); !equal(got, want) {
		t.Errorf("%s, want %s", told(got), told(want))
	}
	// what is only reached by a state that leads to no mark is not left
	d = plain(rows{{-1, 1, 2}, {-1, -1, -1}, {2, 2, 2}}, -1, 0, -1)
	want = api.DFA{Class: classes("a"), Next: rows{{-1, 1}, {-1, -1}}, Mark: []int{-1, 0}}
	if got := of(t, d); !equal(got, want) {
		t.Errorf("%s, want %s", told(got), told(want))
	}
}

// P9.2: classes that lead only to states from which no mark can be reached lead nowhere, and are one class.
func TestOfClassesThatLeadNowhere(t *testing.T) {
	d := api.DFA{Class: classes("a", "b", "c", "d"), Mark: []int{-1, 2, -1, -1}}
	d.Next = rows{{2, 1, 3, -1, 2}, {3, -1, 2, 1, -1}, {3, 2, 3, 2, 3}, {-1, -1, -1, -1, -1}}
	want := api.DFA{Class: classes("a", "c"), Next: rows{{-1, 1, -1}, {-1, -1, 1}}, Mark: []int{-1, 2}}
	if got := of(t, d); !equal(got, want) {
		t.Errorf("%s, want %s", told(got), told(want))
	}
}

// P9.2: classes that only states tell apart that are not reached, or that lead to states of one block, are one class.
func TestOfMergesClasses(t *testing.T) {
	d := plain(rows{{-1, 1, 2}, {-1, 1, 2}, {-1, 2, 1}, {0, 3, -1}}, -1, 4, 4, 5)
	want := api.DFA{Class: classes("ab"), Next: rows{{-1, 1}, {-1, 1}}, Mark: []int{-1, 4}}
	if got := of(t, d); !equal(got, want) {
		t.Errorf("%s, want %s", told(got), told(want))
	}
	// one state of many tells b and c apart, and bytes of two classes stand between each other
	d = api.DFA{Class: classes("bd\xff", "c", "e")}
	for state := range 50 {
		to := min(state+1, 49)
		d.Next, d.Mark = append(d.Next, []int{-1, to, to, to}), append(d.Mark, state)
	}
	want = clone(d)
	d.Next[30][2], want.Next[30][2] = 0, 0
	want.Class = classes("bde\xff", "c")
	for state := range want.Next {
		want.Next[state] = want.Next[state][:3]
	}
	if got := of(t, d); !equal(got, want) {
		t.Errorf("%s, want %s", told(got), told(want))
	}
}

// P9.2: classes are numbered by their smallest bytes, and states in the order in which they are then discovered.
func TestOfNumbersClassesAndStates(t *testing.T) {
	d := api.DFA{Next: rows{{1, 2, 3}, {-1, -1, -1}, {-1, -1, -1}, {-1, -1, -1}}, Mark: []int{-1, 11, 12, 13}}
	for b := range 256 {
		d.Class[b] = 1
	}
	d.Class[0], d.Class[7], d.Class[3], d.Class[9] = 2, 2, 0, 0
	want := api.DFA{Class: d.Class, Next: rows{{1, 2, 3}, {-1, -1, -1}, {-1, -1, -1}, {-1, -1, -1}}, Mark: []int{-1, 13, 12, 11}}
	for b := range 256 {
		want.Class[b] = 2 - d.Class[b]
	}
	if got := of(t, d); !equal(got, want) {
		t.Errorf("%s, want %s", told(got), told(want))
	}
	// every byte is a class of its own, and leads to a state of its own
	d, want = api.DFA{Next: rows{nil}, Mark: []int{-1}}, api.DFA{Next: rows{nil}, Mark: []int{-1}}
	for b := range 256 {
		d.Class[b], want.Class[b] = uint8(b*7+3), uint8(b)
		d.Next[0], want.Next[0] = append(d.Next[0], 256-b), append(want.Next[0], b+1)
		d.Next, want.Next = append(d.Next, slices.Repeat([]int{-1}, 256)), append(want.Next, slices.Repeat([]int{-1}, 256))
	}
	for b := range 256 {
		d.Mark = append(d.Mark, 0)
		want.Mark = append(want.Mark, b)
	}
	for b := range 256 {
		d.Mark[d.Next[0][d.Class[b]]] = b
	}
	if got := of(t, d); !equal(got, want) {
		t.Errorf("%s, want %s", told(got), told(want))
	}
}

// P9.2: all small automata and bigger ones, against a model.
func TestOfAgainstAModel(t *testing.T) {
	for d := range small() {
		if got, want := of(t, d), least(d); !equal(got, want) {
			t.Fatalf("%s, want %s, of %s", told(got), told(want), told(d))
		}
	}
	for d := range bigger() {
		if got, want := of(t, d), least(d); !equal(got, want) {
			t.Fatalf("%s, want %s, of %s", told(got), told(want), told(d))
		}
	}
}

// deterministic returns the automaton of a regular expression's text.
func deterministic(t *testing.T, s string) api.DFA {
	t.Helper()
	r, err := rex.Parse(s)
	if err != api.OK {
		t.Fatalf("%s: error %d", s, err)
	}
	n, _ := nfa.Of(r)
	d, err := subset.One(n)
	if err != api.OK {
		t.Fatalf("%s: error %d", s, err)
	}
	return d
}

// P9.2, P9.3: regular expressions of the same strings have the same automaton, of as few states and classes as possible.
func TestOfRegularExpressions(t *testing.T) {
	for _, c := range []struct {
		states, classes int
		texts           []string
	}{
		{4, 3, []string{"(a|b)*abb", "(a|b)*ab(b)", "((a*b*)*)abb", "[ab]*a[b][b]"}},
		{1, 2, []string{"(a|b)*", "(a*b*)*", "[a-b]*", "(b|a+)*"}},
		{2, 2, []string{"a+", "aa*", "a*a", "a|aa+", "a(a|aa)*"}},
		{3, 4, []string{"a|bc", "bc|a", "bc|a|a"}},
		{5, 2, []string{"(aaaaa)*", "(aaaaa)*|aaaaa"}},
		{2, 2, []string{"[a-z]", "[a-m]|[n-z]", "a|[b-y]|z"}},
		{8, 3, []string{"(a|b)*a(a|b)(a|b)", "[ab]*(aa|ab)[ab]"}},
		{4, 2, []string{"a?a?a?", "(aa?)?a?", "a|aa|aaa|a?"}},
	} {
		var first api.DFA
		for i, s := range c.texts {
			got := of(t, deterministic(t, s))
			if len(got.Next) != c.states || byteset.Count(got.Class) != c.classes {
				t.Errorf("%s: %s", s, told(got))
			}
			if i == 0 {
				first = got
			} else if !equal(got, first) {
				t.Errorf("%s: %s, other than that of %s: %s", s, told(got), c.texts[0], told(first))
			}
		}
	}
}

// P9.3: the result has the marks of all strings.
func TestOfKeepsTheMarksOfAllStrings(t *testing.T) {
	for d := range small() {
		got := of(t, d)
		if s, differ := difference(d, got); differ {
			t.Fatalf("the mark of %q is another one: %s of %s", s, told(got), told(d))
		}
	}
	for d := range bigger() {
		got := of(t, d)
		if s, differ := difference(d, got); differ {
			t.Fatalf("the mark of %q is another one: %s of %s", s, told(got), told(d))
		}
	}
}

// P9.2, P9.3: what holds of every result: no two states are in one block, no two classes lead alike, no state leads to no mark (but the only one), and nothing changes if the result is minimized again.
func TestOfHasNothingThatCouldBeLeftOut(t *testing.T) {
	check := func(d api.DFA) {
		got := of(t, d)
		if !dfa.Right(got) || !equal(dfa.Order(got), got) || !equal(of(t, got), got) {
			t.Fatalf("%s of %s", told(got), told(d))
		}
		if count := slices.Max(mini.Blocks(got)) + 1; count != len(got.Next) {
			t.Fatalf("%d blocks: %s of %s", count, told(got), told(d))
		}
		if slices.Contains(dfa.Alive(got), false) && !equal(got, least1()) {
			t.Fatalf("a state leads to no mark: %s of %s", told(got), told(d))
		}
		next := 0
		for b, class := range got.Class {
			if int(class) > next {
				t.Fatalf("the byte %d is of the class %d, the first one of %d: %s", b, class, next, told(got))
			}
			next = max(next, int(class)+1)
		}
		for c := range next {
			for e := range c {
				if !slices.ContainsFunc(got.Next, func(row []int) bool { return row[c] != row[e] }) {
					t.Fatalf("the classes %d and %d lead alike: %s of %s", e, c, told(got), told(d))
				}
			}
		}
	}
	for d := range small() {
		check(d)
	}
	for d := range bigger() {
		check(d)
	}
}

// P9.3: automata with the same marks for all strings have the same result.
func TestOfAutomataWithTheSameMarks(t *testing.T) {
	x := source(7)
	for d := range bigger() {
		want := of(t, d)
		for range 3 {
			other := disguised(d, &x)
			if got := of(t, other); !equal(got, want) {
				t.Fatalf("%s of %s, but %s of %s", told(got), told(other), told(want), told(d))
			}
		}
	}
}

// P9.3: of all small automata, those with the same marks for all strings have the same result, and others have another one.
func TestOfTellsApartWhatHasOtherMarks(t *testing.T) {
	all := texts("ab", 4) // a shorter text than this tells them apart
	results := map[string]api.DFA{}
	owners := map[string]string{}
	for d := range small() {
		if len(d.Next) > 2 {
			continue
		}
		var marks []byte
		for _, s := range all {
			marks = append(marks, byte(after(d, 0, s)))
		}
		got := of(t, d)
		want, known := results[string(marks)]
		if !known {
			results[string(marks)] = got
		} else if !equal(got, want) {
			t.Fatalf("%s, and %s, for the same marks: %s", told(got), told(want), told(d))
		}
		if owner, known := owners[told(got)]; known && owner != string(marks) {
			t.Fatalf("%s for different marks: %s", told(got), told(d))
		}
		owners[told(got)] = string(marks)
	}
}

// P9.2: classes that only the last one of many states tells apart: they lead to 0, to the powers of 2, to the last state, and nowhere.
func TestOfClassesThatOneStateTellsApart(t *testing.T) {
	last := 1<<15 - 1
	goals := []int{0, 1, 2, 4, 8, 16, 32, 64, 128, 256, 512, 1024, 2048, 4096, 8192, 1 << 14, last, -1}
	d := api.DFA{}
	for i := range goals {
		d.Class['a'+i] = uint8(i + 1)
	}
	for state := range last {
		row := slices.Repeat([]int{-1}, len(goals)+1)
		row[0] = state + 1
		d.Next, d.Mark = append(d.Next, row), append(d.Mark, state)
	}
	d.Next, d.Mark = append(d.Next, append([]int{3}, goals...)), append(d.Mark, 7)
	if got := of(t, d); !equal(got, d) {
		t.Errorf("%s, want %s", told(got), told(d))
	}
}
