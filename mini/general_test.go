package mini_test

import (
	"slices"
	"testing"

	"bosket/api"
	"bosket/mini"
)

// samples returns automata of all kinds, those for which Right does not hold too.
func samples() []api.DFA {
	l := append(wild(), good(), least1(), chain(1), chain(2), chain(100))
	for _, f := range faults() {
		if len(f.d.Next) < 1000 {
			l = append(l, f.d)
		}
	}
	x := source(23)
	for d := range bigger() {
		if l = append(l, d, disguised(d, &x)); len(l) > 1800 {
			break
		}
	}
	return l
}

// P1: every call ends and does not panic.
func TestEveryCallEnds(t *testing.T) {
	for _, d := range append(samples(), chain(1<<15+1), chain(1<<17)) {
		mini.Blocks(d)
		mini.Of(d)
	}
}

// great returns an automaton of as many states and classes as there may be.
func great(to func(state, class int) int) api.DFA {
	d := api.DFA{Next: make(rows, 1<<15), Mark: slices.Repeat([]int{-1}, 1<<15)}
	for b := range 256 {
		d.Class[b] = uint8(b)
	}
	for state := range d.Next {
		d.Next[state] = make([]int, 256)
		for class := range 256 {
			d.Next[state][class] = to(state, class)
		}
	}
	return d
}

// P1, P9.2: as many states and classes as there may be: all states are one, or none is another one.
func TestGreatAutomata(t *testing.T) {
	d := great(func(state, class int) int { return (state*(class+3) + class*class + 1) % (1 << 15) })
	if got := of(t, d); !equal(got, least1()) {
		t.Error(told(got))
	}
	for state := range d.Mark {
		d.Mark[state] = 8
	}
	if got := of(t, d); !equal(got, api.DFA{Next: rows{{0}}, Mark: []int{8}}) {
		t.Error(told(got))
	}
	for state := range d.Mark {
		d.Mark[state] = state
	}
	if got := of(t, d); len(got.Next) != 1<<15 || len(got.Next[0]) != 256 {
		t.Error(told(got))
	}
}

// P1, P9.2: only the longest texts tell some states apart. The classes lead to the next state or to the first one, so that all but two of them are one.
func TestGreatChains(t *testing.T) {
	d := great(func(state, class int) int {
		if class == 77 {
			return 0
		}
		return min(state+1, 1<<15-1)
	})
	d.Mark[1<<15-1] = 1
	got := of(t, d)
	if len(got.Next) != 1<<15 || len(got.Next[0]) != 2 || got.Class != classes("\x4d") {
		t.Error(told(got))
	}
}

// answers are what all functions return for one automaton.
type answers struct {
	blocks []int
	d      api.DFA
	err    api.Errno
}

func ask(d api.DFA) answers {
	a := answers{blocks: mini.Blocks(d)}
	a.d, a.err = mini.Of(d)
	return a
}

func (a answers) equal(b answers) bool {
	return slices.Equal(a.blocks, b.blocks) && equal(a.d, b.d) && a.err == b.err
}

// copied returns answers that share nothing with these.
func (a answers) copied() answers {
	return answers{slices.Clone(a.blocks), clone(a.d), a.err}
}

// spoil overwrites all elements of a list, those behind its length too.
func spoil[T any](l []T, with T) {
	l = l[:cap(l)]
	for i := range l {
		l[i] = with
	}
}

// spoil overwrites everything that the answers hold.
func (a answers) spoil() {
	spoil(a.blocks, 77)
	for _, row := range a.d.Next {
		spoil(row, 77)
	}
	spoil(a.d.Next, nil)
	spoil(a.d.Mark, 77)
}

// roomy returns an automaton whose lists have spare capacity, and these lists at their full lengths.
func roomy(d api.DFA) (api.DFA, rows) {
	var next, full rows
	for _, row := range d.Next {
		long := append(slices.Clone(row), 0, 1, -1, 0)
		next, full = append(next, long[:len(row)]), append(full, long)
	}
	next = append(next, []int{1, 2}, []int{3}, nil)
	mark := append(slices.Clone(d.Mark), 0, 1, 2)
	d.Next, d.Mark = next[:len(d.Next)], mark[:len(d.Mark)]
	return d, append(full, mark)
}

// P2, rule 4: arguments are neither modified nor kept, not even behind their lengths, and results are new.
func TestArgumentsStayAsTheyAre(t *testing.T) {
	for _, sample := range samples() {
		d, full := roomy(sample)
		before := clone(api.DFA{Next: full})
		rowsBefore := slices.Clone(d.Next[:cap(d.Next)])

		first := ask(d)
		want := first.copied()
		first.spoil()
		if !equal(before, api.DFA{Next: full}) || !equal(d, sample) || !slices.EqualFunc(rowsBefore, d.Next[:cap(d.Next)], slices.Equal) {
			t.Fatalf("an automaton has changed: %s, before %s", told(d), told(sample))
		}
		again := ask(d)
		for _, row := range full {
			spoil(row, 88)
		}
		spoil(d.Next, []int{88})
		if !again.equal(want) {
			t.Fatalf("what was told of %s has changed", told(sample))
		}
	}
}

// P2, rule 4: no two lists of a result share anything, not even behind their lengths.
func TestListsOfAResultShareNothing(t *testing.T) {
	for _, sample := range []api.DFA{good(), chain(50), plain(rows{{-1, 1, 2}, {2, 1, 0}, {0, 0, 1}}, 4, 5, 4)} {
		d := of(t, sample)
		want := clone(d)
		for i := range d.Next {
			spoil(d.Next[i], 77)
			for k, row := range d.Next {
				if k > i && !slices.Equal(row, want.Next[k]) {
					t.Fatalf("the row %d has changed with the row %d", k, i)
				}
			}
			if !slices.Equal(d.Mark, want.Mark) {
				t.Fatalf("the marks have changed with the row %d", i)
			}
		}
	}
}

// P2: a call answers the same, whatever was called before.
func TestCallsAnswerTheSameAgain(t *testing.T) {
	all := samples()
	var before []answers
	for _, d := range all {
		before = append(before, ask(d))
	}
	for i, d := range slices.Backward(all) {
		if !ask(d).equal(before[i]) {
			t.Fatalf("other answers for %s", told(d))
		}
	}
}
