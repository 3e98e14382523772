package dfa_test

import (
	"slices"
	"testing"

	"bosket/api"
	"bosket/dfa"
)

// samples returns automata of all kinds, those for which Right does not hold too.
func samples() []api.DFA {
	l := append(wild(), good(), island(), chain(1), chain(2), chain(100))
	for _, f := range faults() {
		if len(f.d.Next) < 1000 {
			l = append(l, f.d)
		}
	}
	for d := range bigger() {
		if l = append(l, d); len(l) > 1400 {
			break
		}
	}
	return l
}

// P1: every call ends and does not panic.
func TestEveryCallEnds(t *testing.T) {
	numbers := append(odd(), 0, 1, 2, 3, 4, 5)
	all := append(samples(), chain(1<<15), chain(1<<15+1), chain(1<<17))
	for i, d := range all {
		dfa.Right(d)
		dfa.Alive(d)
		dfa.Trim(d)
		dfa.Order(d)
		dfa.Same(d, all[len(all)-1-i])
		for _, state := range numbers {
			dfa.Reached(d, state)
			dfa.Mark(d, state)
			for _, b := range []byte("ab\x00\xff") {
				dfa.Step(d, state, b)
			}
			for _, s := range []string{"", "a", "ba", "\xffaab", "aaaaaaaa"} {
				dfa.Run(d, state, s)
				dfa.Has(d, s)
			}
		}
		for _, from := range numbers[:4] {
			dfa.Bytes(d, from, 0)
			dfa.Bytes(d, 0, from)
			dfa.Bytes(d, 1, from)
		}
	}
}

// P1: as many states and classes as there may be.
func TestGreatAutomata(t *testing.T) {
	d := api.DFA{Next: make(rows, 1<<15), Mark: make([]int, 1<<15)}
	for b := range 256 {
		d.Class[b] = uint8(b)
	}
	for state := range d.Next {
		d.Next[state] = make([]int, 256)
		for class := range 256 {
			d.Next[state][class] = (state*(class+3) + class) % (1 << 15)
		}
		d.Mark[state] = -1
	}
	d.Mark[17] = 0
	alive := dfa.Alive(d)
	if !dfa.Right(d) || !alive[17] || len(dfa.Trim(d).Next) != 1<<15 {
		t.Error("a great automaton")
	}
	n := 0
	for _, reached := range dfa.Reached(d, 0) {
		if reached {
			n++
		}
	}
	if got := len(dfa.Order(d).Next); got != n {
		t.Errorf("%d states, want %d", got, n)
	}
}

// answers are what all functions return for one automaton.
type answers struct {
	right          bool
	numbers        []int
	flags          [][]bool
	sets           []api.Set
	trimmed, other api.DFA
}

func ask(d api.DFA) answers {
	a := answers{right: dfa.Right(d), trimmed: dfa.Trim(d), other: dfa.Order(d), flags: [][]bool{dfa.Alive(d)}}
	for state := -1; state < 6; state++ {
		a.numbers = append(a.numbers, dfa.Mark(d, state), dfa.Step(d, state, 'a'), dfa.Step(d, state, 'x'), dfa.Run(d, state, "ab"), dfa.Run(d, state, ""))
		a.flags = append(a.flags, dfa.Reached(d, state))
		a.sets = append(a.sets, dfa.Bytes(d, state, 1), dfa.Bytes(d, state, -1))
	}
	a.numbers = append(a.numbers, dfa.Has(d, ""), dfa.Has(d, "a"), dfa.Has(d, "ba"))
	return a
}

func (a answers) equal(b answers) bool {
	return a.right == b.right && slices.Equal(a.numbers, b.numbers) && slices.EqualFunc(a.flags, b.flags, slices.Equal) && slices.Equal(a.sets, b.sets) && equal(a.trimmed, b.trimmed) && equal(a.other, b.other)
}

// copied returns answers that share nothing with these.
func (a answers) copied() answers {
	flags := a.flags
	a.flags = nil
	for _, l := range flags {
		a.flags = append(a.flags, slices.Clone(l))
	}
	a.trimmed, a.other = clone(a.trimmed), clone(a.other)
	return a
}

// spoil overwrites all elements of a list, those behind its length too.
func spoil[T any](l []T, with T) {
	l = l[:cap(l)]
	for i := range l {
		l[i] = with
	}
}

// spoil overwrites everything that the answers hold.
func (a answers) spoil() {
	for _, l := range a.flags {
		spoil(l, true)
	}
	spoilAll(a.trimmed)
	spoilAll(a.other)
}

func spoilAll(d api.DFA) {
	for _, row := range d.Next {
		spoil(row, 77)
	}
	spoil(d.Next, nil)
	spoil(d.Mark, 77)
}

// roomy returns an automaton whose lists have spare capacity, and these lists at their full lengths.
func roomy(d api.DFA) (api.DFA, rows) {
	var next, full rows
	for _, row := range d.Next {
		long := append(slices.Clone(row), 0, 1, -1, 0)
		next, full = append(next, long[:len(row)]), append(full, long)
	}
	next = append(next, []int{1, 2}, []int{3}, nil)
	mark := append(slices.Clone(d.Mark), 0, 1, 2)
	d.Next, d.Mark = next[:len(d.Next)], mark[:len(d.Mark)]
	return d, append(full, mark)
}

// P2, rule 4: arguments are neither modified nor kept, not even behind their lengths, and results are new.
func TestArgumentsStayAsTheyAre(t *testing.T) {
	for _, sample := range samples() {
		d, full := roomy(sample)
		before := api.DFA{Next: full}
		before = clone(before)
		rowsBefore := slices.Clone(d.Next[:cap(d.Next)])

		first := ask(d)
		want := first.copied()
		first.spoil()
		if !equal(before, api.DFA{Next: full}) || !equal(d, sample) || !slices.EqualFunc(rowsBefore, d.Next[:cap(d.Next)], slices.Equal) {
			t.Fatalf("an automaton has changed: %s, before %s", told(d), told(sample))
		}
		again := ask(d)
		for _, row := range full {
			spoil(row, 88)
		}
		spoil(d.Next, []int{88})
		if !again.equal(want) {
			t.Fatalf("what was told of %s has changed", told(sample))
		}
	}
}

// P2, rule 4: Same leaves both as they are.
func TestSameLeavesBoth(t *testing.T) {
	all := samples()
	for i, sample := range all {
		a, aFull := roomy(sample)
		b, bFull := roomy(all[(i*7+1)%len(all)])
		aBefore, bBefore := clone(api.DFA{Next: aFull}), clone(api.DFA{Next: bFull})
		dfa.Same(a, b)
		if !equal(aBefore, api.DFA{Next: aFull}) || !equal(bBefore, api.DFA{Next: bFull}) {
			t.Fatalf("Same has changed %s or %s", told(a), told(b))
		}
	}
}

// P2, rule 4: no two lists of a result share anything, not even behind their lengths.
func TestListsOfAResultShareNothing(t *testing.T) {
	for _, d := range []api.DFA{dfa.Trim(island()), dfa.Order(island()), dfa.Trim(good()), dfa.Order(good()), dfa.Order(chain(50)), dfa.Trim(chain(50))} {
		want := clone(d)
		for i := range d.Next {
			d.Next[i] = d.Next[i][:cap(d.Next[i])]
			spoil(d.Next[i], 77)
			for k, row := range d.Next {
				if k > i && !slices.Equal(row, want.Next[k]) {
					t.Fatalf("the row %d has changed with the row %d", k, i)
				}
			}
			if !slices.Equal(d.Mark, want.Mark) || d.Class != want.Class {
				t.Fatalf("the marks or classes have changed with the row %d", i)
			}
		}
	}
}

// P2: a call answers the same, whatever was called before.
func TestCallsAnswerTheSameAgain(t *testing.T) {
	all := samples()
	var before []answers
	for _, d := range all {
		before = append(before, ask(d))
	}
	for i, d := range slices.Backward(all) {
		if !ask(d).equal(before[i]) {
			t.Fatalf("other answers for %s", told(d))
		}
	}
}
