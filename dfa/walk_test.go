package dfa_test

import (
	"slices"
	"strings"
	"testing"

	"bosket/api"
	"bosket/dfa"
)

// states returns, for each of so many states, whether it is in a list.
func states(n int, list ...int) []bool {
	in := make([]bool, n)
	for _, state := range list {
		in[state] = true
	}
	return in
}

// island is an automaton some of whose states are not reached from 0 (2, 5, 6), and some not alive (3, 5).
func island() api.DFA {
	return plain(rows{
		{-1, 4, 3}, // 0
		{4, 1, -1}, // 1
		{0, 5, 2},  // 2
		{3, 3, -1}, // 3
		{1, 3, 4},  // 4
		{-1, 3, 5}, // 5
		{-1, -1, -1},
	}, -1, 8, -1, -1, -1, -1, 0)
}

// P8.2: Reached of plain automata.
func TestReached(t *testing.T) {
	d := island()
	for from, want := range [][]int{{0, 1, 3, 4}, {1, 3, 4}, {0, 1, 2, 3, 4, 5}, {3}, {1, 3, 4}, {3, 5}, {6}} {
		if got := dfa.Reached(d, from); !slices.Equal(got, states(7, want...)) {
			t.Errorf("Reached from %d: %v, want %v", from, got, want)
		}
	}
	// The empty string leads from a state to itself, even if no other one does.
	if got := dfa.Reached(chain(4), 3); !slices.Equal(got, states(4, 3)) {
		t.Errorf("Reached from the last one: %v", got)
	}
	if got := dfa.Reached(chain(4), 1); !slices.Equal(got, states(4, 1, 2, 3)) {
		t.Errorf("Reached from 1: %v", got)
	}
}

// P8.2: nothing is reached from a state that does not exist.
func TestReachedFromWhatIsNoState(t *testing.T) {
	for _, d := range []api.DFA{island(), good(), chain(1), chain(300)} {
		for _, from := range append(odd(), len(d.Next), len(d.Next)+1) {
			if got := dfa.Reached(d, from); !slices.Equal(got, make([]bool, len(d.Next))) {
				t.Errorf("Reached from %d: %v: %s", from, got, told(d))
			}
		}
	}
}

// P8.2: Alive of plain automata.
func TestAlive(t *testing.T) {
	for _, c := range []struct {
		d    api.DFA
		want []bool
	}{
		{island(), states(7, 0, 1, 2, 4, 6)},
		{good(), states(3, 0, 1, 2)},
		{plain(rows{{0, 0, 0}}, -1), states(1)},
		{plain(rows{{-1, -1, -1}}, -1), states(1)},
		{plain(rows{{-1, -1, -1}}, 0), states(1, 0)}, // by the empty string
		{plain(rows{{-1, -1, -1}, {0, -1, -1}, {-1, -1, 1}, {2, 2, 2}}, 1<<15-1, -1, -1, -1), states(4, 0, 1, 2, 3)},
		{plain(rows{{0, 1, 1}, {1, 0, -1}, {0, -1, 1}}, -1, -1, 0), states(3, 2)}, // a mark that is reached from nowhere
		{plain(rows{{1, -1, -1}, {0, -1, -1}}, -1, -1), states(2)},
		{plain(rows{{1, -1, -1}, {0, -1, -1}}, -1, 0), states(2, 0, 1)},
		{chain(5), states(5, 0, 1, 2, 3, 4)},
	} {
		if got := dfa.Alive(c.d); !slices.Equal(got, c.want) {
			t.Errorf("Alive: %v, want %v: %s", got, c.want, told(c.d))
		}
	}
}

// P8.2: Trim replaces only the entries that lead to states that are not Alive, those of states that are not reached too. States and marks stay.
func TestTrim(t *testing.T) {
	for _, c := range []struct{ d, want api.DFA }{
		{island(), plain(rows{{-1, 4, -1}, {4, 1, -1}, {0, -1, 2}, {-1, -1, -1}, {1, -1, 4}, {-1, -1, -1}, {-1, -1, -1}}, -1, 8, -1, -1, -1, -1, 0)},
		{good(), good()},
		{plain(rows{{0, 0, 0}}, -1), plain(rows{{-1, -1, -1}}, -1)},
		{plain(rows{{0, 0, 0}}, 0), plain(rows{{0, 0, 0}}, 0)},
		{plain(rows{{1, 1, 2}, {2, 2, 1}, {1, 0, 2}}, -1, -1, -1), plain(rows{{-1, -1, -1}, {-1, -1, -1}, {-1, -1, -1}}, -1, -1, -1)},
		{plain(rows{{0, 1, -1}, {1, 1, 1}}, 0, -1), plain(rows{{0, -1, -1}, {-1, -1, -1}}, 0, -1)},
	} {
		if got := dfa.Trim(c.d); !equal(got, c.want) {
			t.Errorf("Trim: %s, want %s", told(got), told(c.want))
		}
	}
}

// P8.2: Order numbers the states in the order of discovery. Classes stay, even those that lead nowhere any more.
func TestOrder(t *testing.T) {
	for _, c := range []struct{ d, want api.DFA }{
		{island(), plain(rows{{-1, 1, 2}, {3, 2, 1}, {2, 2, -1}, {1, 3, -1}}, -1, -1, -1, 8)},
		{good(), good()},
		{plain(rows{{0, 0, 0}}, 3), plain(rows{{0, 0, 0}}, 3)},
		{plain(rows{{-1, -1, -1}, {0, 1, 2}, {1, 1, 1}}, 0, 1, 2), plain(rows{{-1, -1, -1}}, 0)},
		{plain(rows{{3, 2, 1}, {-1, -1, -1}, {0, -1, -1}, {1, -1, -1}}, 0, 1, 2, 3), plain(rows{{1, 2, 3}, {3, -1, -1}, {0, -1, -1}, {-1, -1, -1}}, 0, 3, 2, 1)},
		// State by state: what is met from an earlier state comes first, even by a later class.
		{plain(rows{{-1, 4, 3}, {1, 1, 1}, {2, 2, 2}, {1, -1, -1}, {-1, -1, 2}}, 0, 1, 2, 3, 4), plain(rows{{-1, 1, 2}, {-1, -1, 3}, {4, -1, -1}, {3, 3, 3}, {4, 4, 4}}, 0, 4, 3, 2, 1)},
	} {
		if got := dfa.Order(c.d); !equal(got, c.want) {
			t.Errorf("Order: %s, want %s", told(got), told(c.want))
		}
	}
	trimmed := plain(rows{{-1, 1, -1}, {2, -1, 1}, {1, 2, -1}}, -1, -1, 8)
	if got := dfa.Order(dfa.Trim(island())); !equal(got, trimmed) {
		t.Errorf("Order of Trim: %s, want %s", told(got), told(trimmed))
	}
	trimmed = plain(rows{{-1, 1, -1}, {3, -1, 1}, {-1, -1, -1}, {1, 3, -1}}, -1, -1, -1, 8)
	if got := dfa.Trim(dfa.Order(island())); !equal(got, trimmed) {
		t.Errorf("Trim of Order: %s, want %s", told(got), told(trimmed))
	}
}

// walks checks all of P8.2 for an automaton.
func walks(t *testing.T, d api.DFA) {
	t.Helper()
	for from, want := range leads(d) {
		if got := dfa.Reached(d, from); !slices.Equal(got, want) {
			t.Fatalf("Reached from %d: %v, want %v: %s", from, got, want, told(d))
		}
	}
	alive := aliveIn(d)
	if got := dfa.Alive(d); !slices.Equal(got, alive) {
		t.Fatalf("Alive: %v, want %v: %s", got, alive, told(d))
	}
	want := clone(d)
	for _, row := range want.Next {
		for class, to := range row {
			if to >= 0 && !alive[to] {
				row[class] = -1
			}
		}
	}
	if got := dfa.Trim(d); !equal(got, want) || !dfa.Right(got) {
		t.Fatalf("Trim: %s, want %s", told(got), told(want))
	}
	want = renumbered(d, met(d))
	if got := dfa.Order(d); !equal(got, want) || !dfa.Right(got) {
		t.Fatalf("Order: %s, want %s: %s", told(got), told(want), told(d))
	}
}

// renumbered returns an automaton of only some states, in the order of a list.
func renumbered(d api.DFA, list []int) api.DFA {
	want := api.DFA{Class: d.Class}
	for _, state := range list {
		var row []int
		for _, to := range d.Next[state] {
			row = append(row, slices.Index(list, to)) // -1 is not in the list, and so stays
		}
		want.Next, want.Mark = append(want.Next, row), append(want.Mark, d.Mark[state])
	}
	return want
}

// P8.2: all small automata.
func TestWalksOfSmallAutomata(t *testing.T) {
	for d := range small() {
		walks(t, d)
	}
}

// P8.2: many bigger automata.
func TestWalksOfManyAutomata(t *testing.T) {
	for d := range bigger() {
		walks(t, d)
	}
}

// P8.2: Order of an automaton that is in order changes nothing, nor does Trim of one that is trimmed.
func TestWalksAgain(t *testing.T) {
	for d := range bigger() {
		ordered, trimmed := dfa.Order(d), dfa.Trim(d)
		if again := dfa.Order(ordered); !dfa.Same(again, ordered) {
			t.Fatalf("Order again: %s, first %s", told(again), told(ordered))
		}
		if again := dfa.Trim(trimmed); !dfa.Same(again, trimmed) {
			t.Fatalf("Trim again: %s, first %s", told(again), told(trimmed))
		}
	}
}

// P8.2: however the states are numbered, Order numbers those that are reached alike.
func TestOrderOfOtherNumbers(t *testing.T) {
	x := source(5)
	for d := range bigger() {
		list := []int{0}
		for state := 1; state < len(d.Next); state++ {
			list = slices.Insert(list, 1+x.below(len(list)), state)
		}
		mixed := renumbered(d, list)
		if a, b := dfa.Order(d), dfa.Order(mixed); !equal(a, b) {
			t.Fatalf("%s and, with other numbers, %s", told(a), told(b))
		}
	}
}

// P8.3: Trim and Order preserve the mark of every string that has one, and give none to others.
func TestMarksArePreserved(t *testing.T) {
	check := func(d api.DFA, all []string) {
		trimmed, ordered, both := dfa.Trim(d), dfa.Order(d), dfa.Order(dfa.Trim(d))
		for _, s := range all {
			want := after(d, s)
			if dfa.Has(trimmed, s) != want || dfa.Has(ordered, s) != want || dfa.Has(both, s) != want {
				t.Fatalf("%q has the mark %d: %s; then %d, %d, %d", s, want, told(d), dfa.Has(trimmed, s), dfa.Has(ordered, s), dfa.Has(both, s))
			}
		}
	}
	check(good(), texts("abx", 5))
	check(island(), texts("abx", 6))
	check(chain(300), []string{"", "a", strings.Repeat("z", 299), strings.Repeat("z", 300)})
	all := texts("ax", 3)
	for d := range small() {
		check(d, all)
	}
	all = texts("abc\xff", 4)
	for d := range bigger() {
		check(d, all)
	}
}

// P8.2: as many states as there may be, in rows and turned round.
func TestWalksOfLongChains(t *testing.T) {
	const n = 1 << 15
	d := chain(n)
	all := slices.Repeat([]bool{true}, n)
	if !slices.Equal(dfa.Reached(d, 0), all) || !slices.Equal(dfa.Alive(d), all) {
		t.Error("a chain is not reached or not alive")
	}
	if !equal(dfa.Trim(d), d) || !equal(dfa.Order(d), d) {
		t.Error("a chain is changed")
	}

	turned := api.DFA{Next: rows{{n - 1}}, Mark: slices.Repeat([]int{-1}, n)} // 0, and then from the last one down to 1
	for state := 1; state < n; state++ {
		turned.Next = append(turned.Next, []int{state - 1})
	}
	turned.Next[1][0] = -1
	turned.Mark[1] = 5
	if !equal(dfa.Order(turned), d) || !equal(dfa.Trim(turned), turned) || !slices.Equal(dfa.Alive(turned), all) || !slices.Equal(dfa.Reached(turned, 0), all) {
		t.Error("a chain that is turned round")
	}

	turned.Mark[1] = -1
	if !slices.Equal(dfa.Alive(turned), make([]bool, n)) || len(dfa.Order(turned).Next) != n {
		t.Error("a chain without a mark")
	}
	for _, row := range dfa.Trim(turned).Next {
		if row[0] != dfa.Dead {
			t.Fatal("a chain without a mark leads on")
		}
	}
}

// P8.2: many states with many classes.
func TestWalksOfDenseAutomata(t *testing.T) {
	const n = 2000
	var d api.DFA
	for b := range 256 {
		d.Class[b] = uint8(b)
	}
	x := source(1)
	for state := range n {
		row := make([]int, 256)
		for class := range row {
			row[class] = x.below(n)
		}
		d.Next, d.Mark = append(d.Next, row), append(d.Mark, state-n+1)
		if state < n-1 {
			d.Mark[state] = -1
		}
	}
	order := slices.Collect(func(yield func(int) bool) { // by the words of the document
		seen, list := states(n, 0), []int{0}
		for i := 0; i < len(list); i++ {
			if !yield(list[i]) {
				return
			}
			for _, to := range d.Next[list[i]] {
				if !seen[to] {
					seen[to], list = true, append(list, to)
				}
			}
		}
	})
	got := dfa.Order(d)
	for number, state := range order {
		for class, to := range d.Next[state] {
			if order[got.Next[number][class]] != to {
				t.Fatalf("%d leads to %d by %d", number, got.Next[number][class], class)
			}
		}
		if got.Mark[number] != d.Mark[state] {
			t.Fatalf("the mark of %d is %d", number, got.Mark[number])
		}
	}
	if len(got.Next) != len(order) || slices.Contains(dfa.Alive(d), false) || !equal(dfa.Trim(d), d) {
		t.Error("a dense automaton")
	}
}
