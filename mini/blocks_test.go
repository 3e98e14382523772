package mini_test

import (
	"slices"
	"testing"

	"bosket/api"
	"bosket/mini"
)

// P9.1: plain automata.
func TestBlocks(t *testing.T) {
	for _, c := range []struct {
		d    api.DFA
		want []int
	}{
		{plain(rows{{-1, -1, -1}}, -1), []int{0}},
		{plain(rows{{-1, -1, -1}}, 3), []int{0}},
		{plain(rows{{0, 0, 0}}, 3), []int{0}},
		{plain(rows{{-1, 1, -1}, {-1, -1, -1}}, -1, 0), []int{0, 1}},
		{plain(rows{{-1, 1, -1}, {-1, 0, -1}}, 0, 0), []int{0, 0}},
		{plain(rows{{-1, 1, -1}, {-1, 0, -1}}, 1, 0), []int{0, 1}},
		{plain(rows{{-1, 1, -1}, {-1, 0, 0}}, 0, 0), []int{0, 1}},
		{plain(rows{{-1, 1, 2}, {-1, -1, -1}, {-1, -1, -1}}, -1, 4, 4), []int{0, 1, 1}},
		{plain(rows{{-1, 1, 2}, {-1, -1, -1}, {-1, -1, -1}}, -1, 4, 5), []int{0, 1, 2}}, // marks differ
		{plain(rows{{-1, 1, 2}, {-1, 3, -1}, {-1, 3, -1}, {-1, -1, -1}}, -1, -1, -1, 0), []int{0, 1, 1, 2}},
		{plain(rows{{-1, 1, 2}, {-1, 3, -1}, {-1, -1, 3}, {-1, -1, -1}}, -1, -1, -1, 0), []int{0, 1, 2, 3}}, // a leads to a mark, or b
		{plain(rows{{-1, 1, 2}, {-1, 3, -1}, {-1, 4, -1}, {-1, -1, -1}, {-1, -1, 3}}, -1, -1, -1, 0, 0), []int{0, 1, 2, 3, 4}},
		{good(), []int{0, 1, 2}},
	} {
		if got := mini.Blocks(c.d); !slices.Equal(got, c.want) {
			t.Errorf("%v, want %v: %s", got, c.want, told(c.d))
		}
	}
}

// P9.1: blocks are numbered by their smallest states, not by their marks or by what is met first.
func TestBlocksAreNumberedByTheirSmallestStates(t *testing.T) {
	d := plain(rows{{-1, 5, 4}, {-1, -1, -1}, {-1, 1, -1}, {-1, -1, -1}, {-1, 3, -1}, {-1, -1, 1}, {-1, -1, -1}}, -1, 9, -1, 9, -1, -1, 0)
	if got, want := mini.Blocks(d), []int{0, 1, 2, 1, 2, 3, 4}; !slices.Equal(got, want) {
		t.Errorf("%v, want %v", got, want)
	}
	// each state has the mark of one other state, and all lead nowhere
	d = api.DFA{}
	for state := range 40 {
		d.Next, d.Mark = append(d.Next, []int{-1}), append(d.Mark, 20-(state*7)%20)
	}
	for state, got := range mini.Blocks(d) {
		if got != state%20 {
			t.Errorf("the state %d is in the block %d", state, got)
		}
	}
}

// P9.1: all states from which no mark can be reached are in one block: those that lead nowhere, to themselves, and to each other.
func TestBlocksOfStatesWithoutMarks(t *testing.T) {
	d := plain(rows{{-1, -1, -1}, {0, 1, 2}, {5, 5, 5}, {-1, 4, -1}, {-1, -1, -1}, {2, 1, -1}, {0, 0, 3}, {0, 3, -1}, {-1, 3, -1}}, -1, -1, -1, -1, 0, -1, 0, -1, -1)
	if got, want := mini.Blocks(d), []int{0, 0, 0, 1, 2, 0, 3, 4, 4}; !slices.Equal(got, want) {
		t.Errorf("%v, want %v", got, want)
	}
	d = plain(rows{{0, 1, 2}, {2, -1, 1}, {-1, -1, -1}}, -1, -1, -1)
	if got, want := mini.Blocks(d), []int{0, 0, 0}; !slices.Equal(got, want) {
		t.Errorf("%v, want %v", got, want)
	}
}

// P9.1: states that are not reached from 0 are in blocks too.
func TestBlocksOfStatesThatAreNotReached(t *testing.T) {
	d := plain(rows{{-1, -1, -1}, {-1, 0, -1}, {-1, 3, -1}, {-1, -1, -1}, {-1, -1, -1}}, 1, -1, -1, 1, 2)
	if got, want := mini.Blocks(d), []int{0, 1, 1, 0, 2}; !slices.Equal(got, want) {
		t.Errorf("%v, want %v", got, want)
	}
}

// P9.1: nothing is returned where Right does not hold.
func TestBlocksWhereRightDoesNotHold(t *testing.T) {
	for _, f := range faults() {
		if got := mini.Blocks(f.d); len(got) != 0 {
			t.Errorf("%d blocks with %s: %s", len(got), f.what, told(f.d))
		}
	}
}

// P9.1: all small automata: two states are in one block if all texts that are short enough to tell them apart have the same marks from both, and a block has the number of the blocks that begin ahead of it.
func TestBlocksOfAllSmallAutomata(t *testing.T) {
	all := texts("ab", 4)
	for d := range small() {
		got := mini.Blocks(d)
		if len(got) != len(d.Next) {
			t.Fatalf("%v: %s", got, told(d))
		}
		count := 0
		for q := range got {
			first := slices.IndexFunc(got, func(block int) bool { return block == got[q] })
			if first == q {
				if got[q] != count {
					t.Fatalf("%v: %s", got, told(d))
				}
				count++
			}
			for p := range q {
				alike := !slices.ContainsFunc(all, func(s string) bool { return after(d, p, s) != after(d, q, s) })
				if alike != (got[p] == got[q]) {
					t.Fatalf("%v for %d and %d: %s", got, p, q, told(d))
				}
			}
		}
	}
}

// P9.1: bigger automata, and such ones that have states of one block, against a model.
func TestBlocksOfBiggerAutomata(t *testing.T) {
	x := source(5)
	for d := range bigger() {
		if got, want := mini.Blocks(d), blocks(d); !slices.Equal(got, want) {
			t.Fatalf("%v, want %v: %s", got, want, told(d))
		}
		if d = disguised(d, &x); len(d.Next) > 35 {
			continue
		}
		if got, want := mini.Blocks(d), blocks(d); !slices.Equal(got, want) {
			t.Fatalf("%v, want %v: %s", got, want, told(d))
		}
	}
}

// P9.1: states that only long texts tell apart.
func TestBlocksOfChains(t *testing.T) {
	for _, n := range []int{1, 2, 3, 10, 100, 1 << 15} {
		got := mini.Blocks(chain(n))
		if len(got) != n {
			t.Fatalf("%d states of %d", len(got), n)
		}
		for state, block := range got {
			if block != state {
				t.Fatalf("the state %d of %d is in the block %d", state, n, block)
			}
		}
	}
	d := chain(1 << 15) // a ring without marks, and one with marks of every fourth state
	d.Next[1<<14-1][0], d.Next[1<<15-1][0] = 0, 1<<14
	for state := range d.Mark {
		d.Mark[state] = -1
		if state >= 1<<14 && state%4 == 3 {
			d.Mark[state] = 2
		}
	}
	for state, block := range mini.Blocks(d) {
		want := 0
		if state >= 1<<14 {
			want = 1 + state%4
		}
		if block != want {
			t.Fatalf("the state %d is in the block %d, want %d", state, block, want)
		}
	}
}
